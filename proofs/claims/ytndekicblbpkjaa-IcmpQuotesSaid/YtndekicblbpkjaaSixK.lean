/- Layer 9: the law's bytes. -/
import Derived.Test.YtndekicblbpkjaaSixI
import Derived.Test.YtndekicblbpkjaaSixJ
import Derived.Laws.AppendOwnNone
namespace Go.Proofs.Ytndekicblbpkjaa.sixK
open Go.ChangeShapes Go.WideShapes Go.ChangeAt Go.RowKit
open Go.Proofs.Ytndekicblbpkjaa.base Go.Proofs.Ytndekicblbpkjaa.octA Go.Proofs.Ytndekicblbpkjaa.octB Go.Proofs.Ytndekicblbpkjaa.octC Go.Proofs.Ytndekicblbpkjaa.octF Go.Proofs.Ytndekicblbpkjaa.octK Go.Proofs.Ytndekicblbpkjaa.net Go.Proofs.Ytndekicblbpkjaa.rdrA Go.Proofs.Ytndekicblbpkjaa.rdrG Go.Proofs.Ytndekicblbpkjaa.sumA Go.Proofs.Ytndekicblbpkjaa.sumB Go.Proofs.Ytndekicblbpkjaa.udpA Go.Proofs.Ytndekicblbpkjaa.tcpC Go.Proofs.Ytndekicblbpkjaa.sixW Go.Proofs.Ytndekicblbpkjaa.sixM Go.Proofs.Ytndekicblbpkjaa.sixA Go.Proofs.Ytndekicblbpkjaa.sixB Go.Proofs.Ytndekicblbpkjaa.sixC Go.Proofs.Ytndekicblbpkjaa.sixD Go.Proofs.Ytndekicblbpkjaa.sixE Go.Proofs.Ytndekicblbpkjaa.sixF Go.Proofs.Ytndekicblbpkjaa.sixG Go.Proofs.Ytndekicblbpkjaa.sixH Go.Proofs.Ytndekicblbpkjaa.sixI Go.Proofs.Ytndekicblbpkjaa.sixJ
set_option linter.unusedVariables false

/-- A header's first eight bytes. -/
def hd8 (cls lab hop p0 : Int) (n : Nat) : List Int := [96 + cls / 16, cls % 16 * 16 + lab / 65536, lab / 256 % 256, lab % 256, (n : Int) / 256 % 256, (n : Int) % 256, p0, hop]
/-- A header's bytes. -/
def hdB (h : Hs) (p0 : Int) (n : Nat) : List Int := hd8 h.cls h.lab h.hop p0 n ++ (pb h.sh 8 8 ++ pb h.sl 8 8) ++ (pb h.dh 8 8 ++ pb h.dl 8 8)
/-- A packet's bytes. -/
def sixB (h : Hs) (l : List XP) (r : List Int) : List Int := hdB h (nextK l h.p) (extL l + r.length) ++ (extB l h.p ++ r)
theorem own_lit (w : World) (B : Nat) (xs : List Value) (n : Nat) (hn : xs.length = n) (hb : B ≤ w.heap.size) (hm : n ≤ 1000000) : (w.alloc (.cells xs.toArray 5)).ownsRow B 5 1 (.slice (some ⟨w.heap.size, 0, none⟩) n n) n xs :=
  ⟨by omega, .inr ⟨w.heap.size, n, xs.toArray, rfl, hb, heap_alloc_new w _, Nat.le_refl _, by unfold maxLen; omega, by simpa using hn, by rw [Nat.mul_one]; simpa using List.take_of_length_le (show xs.length ≤ n by omega)⟩⟩
theorem one_map (l : List Int) : ∀ u ∈ l.map (Value.int .u8), u.oneCell' = true := fun u hu => by
  rw [List.mem_map] at hu
  obtain ⟨x, _, rfl⟩ := hu
  rfl
theorem news_own {w : World} {B n : Nat} {v : Value} {l : List Int} (h : w.ownsRow B 5 1 v n (l.map (.int .u8))) (hn : 0 < n) (hl : l.length = n) : ∃ g c, v = .slice (some ⟨g, 0, none⟩) n c ∧ ∀ i u, (l.map (Value.int .u8))[i]? = some u → w.cell? ((⟨g, 0, none⟩ : Addr).add i) = some u := by
  obtain ⟨g, c, rfl, _, _, _, _, h5, _⟩ := own_form h hn
  refine ⟨g, c, rfl, fun i u hu => ?_⟩
  rw [Addr.add_lit, Nat.zero_add, h5 i (by have := (List.getElem?_eq_some_iff.1 hu).1; rw [List.length_map, hl] at this; exact this), hu]
theorem news_row {w : World} {B : Nat} {A : Option Addr} {l : List Int} (h : Row w B A (l.map (.int .u8))) (hl : 0 < l.length) : ∃ b off, A = some ⟨b, off, none⟩ ∧ ∀ i u, (l.map (Value.int .u8))[i]? = some u → w.cell? ((⟨b, off, none⟩ : Addr).add i) = some u := by
  obtain ⟨b, off, hA, _, hc⟩ := h.at_ (by intro e; rw [List.map_eq_nil_iff] at e; rw [e] at hl; simp at hl)
  exact ⟨b, off, hA, fun i u hu => by rw [Addr.add_lit]; exact hc i u hu⟩
theorem extL_cons (a : XP) (L : List XP) : extL (a :: L) = 1 + a.2.length + extL L := by
  unfold extL
  rw [List.map_cons, List.sum_cons]
theorem extL_drop_le : ∀ (L : List XP) (i : Nat), extL (L.drop i) ≤ extL L
  | [], i => by simp
  | a :: L, 0 => Nat.le_refl _
  | a :: L, i + 1 => by
    rw [List.drop_succ_cons, extL_cons]
    have := extL_drop_le L i
    omega
theorem extL_drop (p : Int) (l : List XP) (j : Nat) (hj : j < l.length) : extL (l.drop j) = 1 + l[j].2.length + extL (l.drop (j + 1)) ∧ extB (l.drop j) p = nextK (l.drop (j + 1)) p :: (l[j].2 ++ extB (l.drop (j + 1)) p) ∧ nextK (l.drop j) p = l[j].1 := by
  rw [List.drop_eq_getElem_cons hj]
  refine ⟨?_, rfl, rfl⟩
  unfold extL
  rw [List.map_cons, List.sum_cons]
set_option maxHeartbeats 8000000 in
set_option maxRecDepth 100000 in
theorem lbytes_any (h : Hs) (A : Option Addr) (n c : Nat) (l : List Xt) (R : Option Addr) (m rc : Nat) (r : List Int) (w : World) (hl : l.length = n) (hr : RdX w A l) (hR : RightH h (l.map Xt.re)) (hsh : 0 ≤ h.sh ∧ h.sh < 18446744073709551616) (hsl : 0 ≤ h.sl ∧ h.sl < 18446744073709551616) (hdh : 0 ≤ h.dh ∧ h.dh < 18446744073709551616) (hdl : 0 ≤ h.dl ∧ h.dl < 18446744073709551616)
    (hm : r.length = m) (hrr : Row w w.heap.size R (r.map (.int .u8))) (hm2 : m ≤ 1000) (hrc : R = none → rc = 0) :
    Calls Try.prog 17 #[.agg (h.cells (.slice A n c)), .slice R m rc] w fun o w' => ∃ v, o = .returned v ∧ w'.ownsRow w.heap.size 5 1 v (sixB h (l.map Xt.re) r).length ((sixB h (l.map Xt.re) r).map (.int .u8)) ∧ Below w.heap.size w w' := by
  obtain ⟨i0, hi0, hz0, hz1, hz2⟩ := info_parts info_u8
  have HI0 := Lib.hid hi0
  have HZ0 := Lib.hid hz0
  have HZ1 := Lib.hid hz1
  have HZ2 := Lib.hid hz2
  obtain ⟨cls, lab, hop, s6, sh, sl, d6, dh, dl, p⟩ := h
  obtain rfl : s6 = true := hR.s6
  obtain rfl : d6 = true := hR.d6
  have c0 : 0 ≤ cls := hR.c0
  have c1 : cls ≤ 255 := hR.c1
  have h0 : 0 ≤ hop := hR.h0
  have h1 : hop ≤ 255 := hR.h1
  have l0 : 0 ≤ lab := hR.l0
  have l1 : lab ≤ 1048575 := hR.l1
  have p0 : 0 ≤ p := hR.p0
  have p1 : p ≤ 255 := hR.p1
  have HRE := Lib.hid hR.e
  have hn8 : n ≤ 8 := by have := hR.e.most; rw [List.length_map] at this; omega
  have HL := Lib.hid hl
  have HM := Lib.hid hm
  have HRR := Lib.hid hrr
  have HRC := Lib.hid hrc
  have AS := Lib.hid (show ∀ V, _ from fun V => abytes_any sh sl V hsh.1 hsh.2 hsl.1 hsl.2)
  have AD := Lib.hid (show ∀ V, _ from fun V => abytes_any dh dl V hdh.1 hdh.2 hdl.1 hdl.2)
  obtain ⟨w1, hw1⟩ : ∃ w1, w1 = w.alloc (.cells #[.int .i64 cls, .int .i64 lab, .int .i64 hop, .bool true, .int .u64 sh, .int .u64 sl, .bool true, .int .u64 dh, .int .u64 dl, .slice A n c, .int .i64 p] 29) := ⟨_, rfl⟩
  obtain ⟨B, hB⟩ : ∃ B, B = w.heap.size + 1 := ⟨_, rfl⟩
  have E1 := Lib.hid hw1
  have EB := Lib.hid hB
  have BA := Lib.hid (show Below w.heap.size w w1 from by rw [hw1]; exact (Below.refl _ _).alloc (Nat.le_refl _) _)
  have KB := Lib.hid (show Blk w1 w.heap.size 29 #[.int .i64 cls, .int .i64 lab, .int .i64 hop, .bool true, .int .u64 sh, .int .u64 sl, .bool true, .int .u64 dh, .int .u64 dl, .slice A n c, .int .i64 p] from by rw [hw1]; exact Blk.new w _ _)
  have SZ1 := Lib.hid (show w1.heap.size = B from by rw [hw1, hB]; simp)
  have HR1 := Lib.hid (hr.below BA.out)
  have hxl := extL_le HRE.out
  have hwB : w.heap.size < B := by omega
  have hBw : B ≤ w.heap.size + 1 := by omega
  obtain ⟨X, hX⟩ : ∃ X, X = l.map Xt.re := ⟨_, rfl⟩
  have HX := Lib.hid hX
  rw [← hX] at HRE hxl
  have HXL := Lib.hid (show X.length = n from by rw [hX, List.length_map]; exact hl)
  show Calls _ _ #[.agg #[.int .i64 cls, .int .i64 lab, .int .i64 hop, .bool true, .int .u64 sh, .int .u64 sl, .bool true, .int .u64 dh, .int .u64 dl, .slice A n c, .int .i64 p], .slice R m rc] _ _
  rw [← hX]
  have c10 := KB.out.cell 10
  have c9 := KB.out.cell 9
  clear hi0 hz0 hz1 hz2 hl hr hR hsh hsl hdh hdl hm hrr hrc hw1 hB hX
  go_enter Try.func17, Try.ntmps17
  go_upto_region 1 with fail
  rw [← E1.out]
  have wn : IntKind.i64.wrap ((n : Int) - 1) = (n : Int) - 1 := IntWalk.i64_in _ (by omega)
  go_wp2_with fail
  go_loopw [5, 6, 7, 8] (fun tv nv i _ wr => ∃ (k : Nat) (nx : Int), k ≤ n ∧ i = .int .i64 ((k : Int) - 1) ∧ nv = .int .i64 nx ∧ (0 ≤ nx ∧ nx ≤ 255) ∧ Hid (nx = nextK (X.drop k) p) ∧ Hid (wr.ownsRow B 5 1 tv (extL (X.drop k)) ((extB (X.drop k) p).map (.int .u8))) ∧ Hid (Below B w1 wr) ∧ (k < n → 0 < extL (X.drop k)) ∧ Hid (k = n → tv = .slice none 0 0)) (fun _ _ i _ _ => (intOf i + 1).toNat)
  case atStart =>
    have e : X.drop n = [] := List.drop_of_length_le (by rw [HXL.out]; exact Nat.le_refl _)
    exact ⟨n, p, by omega, rfl, rfl, ⟨p0, p1⟩, Lib.hid (by rw [e]; rfl), Lib.hid (by rw [e]; exact World.ownsRow_nil _ _ _ _), Lib.hid (Below.refl _ _), fun h => by omega, Lib.hid (fun _ => rfl)⟩
  case round =>
    obtain ⟨k, nx, hk, rfl, rfl, hnx, HNX, HT, HBW, hpos, HNIL⟩ := hrel
    have k9 : wr.cell? ⟨w.heap.size, 9, none⟩ = some (.slice A n c) := (HBW.out.cell (p := ⟨w.heap.size, 9, none⟩) hwB).trans c9
    have hZ : B ≤ wr.heap.size := by have := HBW.out.size; have := SZ1.out; omega
    obtain ⟨At, ct, hvt⟩ := own_slice HT.out
    by_cases hk0 : k = 0
    · subst hk0
      have e0 : X.drop 0 = X := rfl
      rw [e0] at HNX HT hvt
      obtain ⟨nt, hnt⟩ : ∃ nt, nt = extL X := ⟨_, rfl⟩
      have HNTE := Lib.hid hnt
      rw [← hnt] at HT hvt hxl
      subst hvt
      rw [show (((0 : Nat) : Int) - 1) = -1 from rfl]
      have hmn : nt + m ≤ 17384 := by omega
      clear e0 hpos HNIL hnt
      go_upto_region 10 with fail
      go_cut [5] (fun v wx => ∃ At2 ct2, v = .slice At2 (nt + m) ct2 ∧ Hid (wx.ownsRow B 5 1 (.slice At2 (nt + m) ct2) (nt + m) ((extB X p ++ r).map (.int .u8))) ∧ Hid (Below B w1 wx))
      case first =>
        cases R with
        | none =>
          have hr0 := HRC.out rfl
          subst hr0
          have hrn : r = [] := by
            rcases HRR.out with h | ⟨_, _, h, _⟩
            · simpa using h
            · cases h
          have hm0 : m = 0 := by rw [← HM.out, hrn]; rfl
          subst hm0
          have HOZ := Lib.hid (show wr.ownsRow B 5 1 (.slice At nt ct) (nt + 0) ((extB X p ++ r).map (.int .u8)) from by rw [hrn]; simpa using HT.out)
          clear hrn
          go_wp2_with (at_builtin; refine wpList_append_own_none rfl (.tmp 40) (.tmp 41) _ rfl B 5 i0 1 Try.underlying22 HI0.out (.slice At nt ct) nt ((extB X p).map (.int .u8)) rfl HT.out rfl ?_)
          go_meet
          exact ⟨At, ct, rfl, HOZ, HBW⟩
        | some ad =>
          have HNR := Lib.hid (show ∀ i u, (r.map (Value.int .u8))[i]? = some u → wr.cell? (ad.add i) = some u from fun i u hu => by
            have hr0 : 0 < r.length := by have := (List.getElem?_eq_some_iff.1 hu).1; rw [List.length_map] at this; omega
            obtain ⟨b9, o9, h9, hb9, h8⟩ := HRR.out.at_ (by intro e; rw [List.map_eq_nil_iff] at e; rw [e] at hr0; simp at hr0)
            injection h9 with h9
            subst h9
            have h7 := h8 i u hu
            rw [Addr.add_lit]
            exact (HBW.out.cell (p := ⟨b9, o9 + i, none⟩) (by show b9 < B; omega)).trans ((BA.out.cell (p := ⟨b9, o9 + i, none⟩) hb9).trans h7))
          have HLR := Lib.hid (show (r.map (Value.int .u8)).length = m * 1 from by rw [List.length_map, HM.out, Nat.mul_one])
          have P1 := Lib.hid (show nt + m ≤ maxLen by unfold maxLen; omega)
          have P2 := Lib.hid (show (nt + m) * 1 ≤ 140737488355328 by omega)
          go_wp2_with (at_builtin; refine wpList_append_own _ rfl (.tmp 40) (.tmp 41) _ rfl B 5 i0 _ 1 1 Try.underlying22 HI0.out HZ0.out HZ1.out HZ2.out rfl (by omega) (.slice At nt ct) nt ((extB X p).map (.int .u8)) rfl HT.out ad m rc (r.map (.int .u8)) rfl HLR.out HNR.out (one_map _) P1.out P2.out hZ ?_; intro va wa owna ga _; have HBa := Lib.hid (below_grown HBW.out HT.out (Nat.le_refl _) hZ ga); obtain ⟨Aa, ca, hva⟩ := own_slice owna; subst hva; have OWA := Lib.hid owna; clear owna ga)
          go_meet
          exact ⟨Aa, ca, rfl, Lib.hid (by rw [List.map_append]; exact OWA.out), HBa⟩
      case rest =>
      obtain ⟨At2, ct2, rfl, HTL, HBT⟩ := hcut
      obtain ⟨wt, rfl⟩ : ∃ wt, wt = wc := ⟨_, rfl⟩
      have KT := Lib.hid (show Blk wt w.heap.size 29 #[.int .i64 cls, .int .i64 lab, .int .i64 hop, .bool true, .int .u64 sh, .int .u64 sl, .bool true, .int .u64 dh, .int .u64 dl, .slice A n c, .int .i64 p] from KB.out.below HBT.out hwB)
      have ZT : B ≤ wt.heap.size := by have := HBT.out.size; have := SZ1.out; omega
      obtain ⟨N, hN⟩ : ∃ N, N = nt + m := ⟨_, rfl⟩
      have HNN := Lib.hid hN
      rw [← hN] at HTL ⊢
      have hNm : N ≤ 17384 := by omega
      clear hN
      have k0 := KT.out.cell 0
      have k1 := KT.out.cell 1
      have k2 := KT.out.cell 2
      have k3 := KT.out.cell 3
      have k4 := KT.out.cell 4
      have k5 := KT.out.cell 5
      have k6 := KT.out.cell 6
      have k7 := KT.out.cell 7
      have k8 := KT.out.cell 8
      have k9 := KT.out.cell 9
      have k10 := KT.out.cell 10
      have q1 : IntKind.i64.wrap (cls.tdiv 16) = cls / 16 := by rw [Int.tdiv_eq_ediv_of_nonneg (by omega), IntKind.wrap_i64]; omega
      have q2 : IntKind.i64.wrap (96 + cls / 16) = 96 + cls / 16 := by rw [IntKind.wrap_i64]; omega
      have q3 : IntKind.u8.wrap (96 + cls / 16) = 96 + cls / 16 := by rw [IntKind.wrap_u8]; omega
      have q4 : cls.tmod 16 = cls % 16 := Int.tmod_eq_emod_of_nonneg (by omega)
      have q5 : IntKind.i64.wrap (cls % 16 * 16) = cls % 16 * 16 := by rw [IntKind.wrap_i64]; omega
      have q6 : IntKind.i64.wrap (lab.tdiv 65536) = lab / 65536 := by rw [Int.tdiv_eq_ediv_of_nonneg (by omega), IntKind.wrap_i64]; omega
      have q7 : IntKind.i64.wrap (cls % 16 * 16 + lab / 65536) = cls % 16 * 16 + lab / 65536 := by rw [IntKind.wrap_i64]; omega
      have q8 : IntKind.u8.wrap (cls % 16 * 16 + lab / 65536) = cls % 16 * 16 + lab / 65536 := by rw [IntKind.wrap_u8]; omega
      have q9 : IntKind.i64.wrap (lab.tdiv 256) = lab / 256 := by rw [Int.tdiv_eq_ediv_of_nonneg (by omega), IntKind.wrap_i64]; omega
      have q10 : IntKind.u8.wrap (lab / 256) = lab / 256 % 256 := IntKind.wrap_u8' _
      have q11 : IntKind.u8.wrap lab = lab % 256 := IntKind.wrap_u8' _
      have q12 : IntKind.i64.wrap ((N : Int).tdiv 256) = (N : Int) / 256 := by rw [Int.tdiv_eq_ediv_of_nonneg (by omega), IntKind.wrap_i64]; omega
      have q13 : IntKind.u8.wrap ((N : Int) / 256) = (N : Int) / 256 % 256 := IntKind.wrap_u8' _
      have q14 : IntKind.u8.wrap (N : Int) = (N : Int) % 256 := IntKind.wrap_u8' _
      have q15 : IntKind.u8.wrap nx = nx := by rw [IntKind.wrap_u8]; omega
      have q16 : IntKind.u8.wrap hop = hop := by rw [IntKind.wrap_u8]; omega
      have q17 : IntKind.i64.wrap (N : Int) = N := by rw [IntKind.wrap_i64]; omega
      obtain ⟨w8, hw8⟩ : ∃ w8, w8 = wt.alloc (.cells #[.int .u8 (96 + cls / 16), .int .u8 (cls % 16 * 16 + lab / 65536), .int .u8 (lab / 256 % 256), .int .u8 (lab % 256), .int .u8 ((N : Int) / 256 % 256), .int .u8 ((N : Int) % 256), .int .u8 nx, .int .u8 hop] 5) := ⟨_, rfl⟩
      have E8 := Lib.hid hw8
      obtain ⟨g, hg⟩ : ∃ g, g = wt.heap.size := ⟨_, rfl⟩
      have EG := Lib.hid hg
      have BA8 := Lib.hid (show Below wt.heap.size wt w8 from by rw [hw8]; exact (Below.refl _ _).alloc (Nat.le_refl _) _)
      have SZ8 := Lib.hid (show w8.heap.size = g + 1 from by rw [hw8, hg]; simp)
      have OB8 := Lib.hid (show w8.ownsRow g 5 1 (.slice (some ⟨g, 0, none⟩) 8 8) 8 ((hd8 cls lab hop nx N).map (.int .u8)) from by rw [hw8, hg]; exact own_lit wt _ _ 8 rfl (Nat.le_refl _) (by omega))
      have OT8 := Lib.hid (own_below2 HTL.out BA8.out)
      have KT8 := Lib.hid (KT.out.below BA8.out KT.out.lt)
      have HB8 := Lib.hid (HBT.out.trans (BA8.out.mono ZT))
      have GB := Lib.hid (show B ≤ g from by rw [hg]; exact ZT)
      clear hw8 hg
      go_upto_region 12 with fail
      rw [← EG.out, ← E8.out]
      clear q1 q2 q3 q4 q5 q6 q7 q8 q9 q10 q11 q12 q13 q14 q15 q16 q17 k0 k1 k2 k3 k4 k5 k6 k7 k8 k9 k10
      have k3 := KT8.out.cell 3
      have k4 := KT8.out.cell 4
      have k5 := KT8.out.cell 5
      go_wp2_with fail
      refine (AS.out _).mono ?_
      rintro e w9 ⟨v9, rfl, ho9, hb9⟩
      obtain ⟨A9, c9, hv9⟩ := own_slice ho9
      subst hv9
      have HO9 := Lib.hid (show w9.ownsRow (g + 1) 5 1 (.slice A9 16 c9) 16 ((pb sh 8 8 ++ pb sl 8 8).map (.int .u8)) from by rw [← SZ8.out]; exact ho9)
      have BA9 := Lib.hid hb9
      have OB9 := Lib.hid (own_below2 OB8.out BA9.out)
      have OT9 := Lib.hid (own_below2 OT8.out BA9.out)
      have KT9 := Lib.hid (KT8.out.below BA9.out KT8.out.lt)
      have HB9 := Lib.hid (HB8.out.trans (BA9.out.mono (by have := SZ8.out; have := GB.out; omega)))
      clear ho9 hb9 k3 k4 k5
      have NEG := Lib.hid (show ∀ k, (Value.slice At2 N ct2).ownBlock = some k → k < g from fun k hk => by have := (HTL.out.lt k hk).2; have := EG.out; omega)
      have NE9 := Lib.hid (show (Value.slice At2 N ct2).ownBlock = none ∨ (Value.slice At2 N ct2).ownBlock ≠ (Value.slice (some ⟨g, 0, none⟩) 8 8).ownBlock from by
        refine .inr fun h => ?_
        have := NEG.out g (by rw [h]; rfl)
        omega)
      have HNE := Lib.hid (show ∀ (V : World) (v : Value) (q : Nat) (xs : List Value), V.ownsRow g 5 1 v q xs → (Value.slice At2 N ct2).ownBlock = none ∨ (Value.slice At2 N ct2).ownBlock ≠ v.ownBlock from fun V v q xs h => by
        cases hk : (Value.slice At2 N ct2).ownBlock with
        | none => exact .inl rfl
        | some k =>
          refine .inr fun h2 => ?_
          have := NEG.out k hk
          have := (h.lt k h2.symm).1
          omega)
      have HR9 := Lib.hid (own_row HO9.out)
      have HC9 := Lib.hid (own_cap HO9.out).2.2
      have HL9 := Lib.hid (show (((pb sh 8 8 ++ pb sl 8 8).map (.int .u8)) : List Value).length = 16 from by rw [List.length_map, List.length_append, pb_len, pb_len])
      have HS9 := Lib.hid (show B ≤ w9.heap.size from by have := SZ8.out; have := GB.out; have := BA9.out.size; omega)
      have HG9 := Lib.hid (show g ≤ w9.heap.size from by have := SZ8.out; have := BA9.out.size; omega)
      go_upto_region 13 with (at_builtin; refine wpList_append_row rfl (.tmp 77) (.tmp 80) _ rfl g 5 i0 _ 1 Try.underlying22 HI0.out HZ0.out HZ1.out HZ2.out rfl (.slice (some ⟨g, 0, none⟩) 8 8) 8 ((hd8 cls lab hop nx N).map (.int .u8)) rfl OB9.out A9 16 c9 w9.heap.size ((pb sh 8 8 ++ pb sl 8 8).map (.int .u8)) rfl HC9.out HL9.out HR9.out (one_map _) (by unfold maxLen; omega) (by omega) HG9.out ?_; intro v10 w10 ho10 hg10; have OB10 := Lib.hid ho10; have HB10 := Lib.hid (below_grown HB9.out OB9.out GB.out HS9.out hg10); have HS10 := Lib.hid (Nat.le_trans HS9.out hg10.size); have HG10 := Lib.hid (Nat.le_trans HG9.out hg10.size); have OT10 := Lib.hid (OT9.out.kept hg10 (NE9.out)); obtain ⟨A10, c10, hv10⟩ := own_slice ho10; subst hv10; clear ho10 hg10)
      have KT10 := Lib.hid (KB.out.below HB10.out hwB)
      have k6 := KT10.out.cell 6
      have k7 := KT10.out.cell 7
      have k8 := KT10.out.cell 8
      clear KT9 KT8 OT9 OT8 OB9 OB8 HB9 HB8 HO9 HR9 HC9
      go_wp2_with fail
      refine (AD.out _).mono ?_
      rintro e w11 ⟨v11, rfl, ho11, hb11⟩
      obtain ⟨A11, c11, hv11⟩ := own_slice ho11
      subst hv11
      have BA11 := Lib.hid hb11
      have OB11 := Lib.hid (own_below2 OB10.out BA11.out)
      have OT11 := Lib.hid (own_below2 OT10.out BA11.out)
      have HB11 := Lib.hid (HB10.out.trans (BA11.out.mono HS10.out))
      have HR11 := Lib.hid (own_row ho11)
      have HC11 := Lib.hid (own_cap ho11).2.2
      have HL11 := Lib.hid (show (((pb dh 8 8 ++ pb dl 8 8).map (.int .u8)) : List Value).length = 16 from by rw [List.length_map, List.length_append, pb_len, pb_len])
      have HS11 := Lib.hid (Nat.le_trans HS10.out BA11.out.size)
      have HG11 := Lib.hid (Nat.le_trans HG10.out BA11.out.size)
      have NE11 := Lib.hid (HNE.out _ _ _ _ OB11.out)
      clear ho11 hb11 k6 k7 k8
      go_upto_region 14 with (at_builtin; refine wpList_append_row rfl (.tmp 82) (.tmp 85) _ rfl g 5 i0 _ 1 Try.underlying22 HI0.out HZ0.out HZ1.out HZ2.out rfl (.slice A10 (8 + 16) c10) (8 + 16) (((hd8 cls lab hop nx N).map (.int .u8)) ++ ((pb sh 8 8 ++ pb sl 8 8).map (.int .u8))) rfl OB11.out A11 16 c11 w11.heap.size ((pb dh 8 8 ++ pb dl 8 8).map (.int .u8)) rfl HC11.out HL11.out HR11.out (one_map _) (by unfold maxLen; omega) (by omega) HG11.out ?_; intro v12 w12 ho12 hg12; have OB12 := Lib.hid ho12; have HB12 := Lib.hid (below_grown HB11.out OB11.out GB.out HS11.out hg12); have HS12 := Lib.hid (Nat.le_trans HS11.out hg12.size); have HG12 := Lib.hid (Nat.le_trans HG11.out hg12.size); have OT12 := Lib.hid (OT11.out.kept hg12 (NE11.out)); obtain ⟨A12, c12, hv12⟩ := own_slice ho12; subst hv12; clear ho12 hg12)
      have HR13 := Lib.hid (own_row OT12.out)
      have HC13 := Lib.hid (own_cap OT12.out).2.2
      have HL13 := Lib.hid (show ((extB X p ++ r).map (Value.int .u8)).length = N from by rw [List.length_map, List.length_append, extB_len, HNN.out, HNTE.out, HM.out])
      have NE12 := Lib.hid (HNE.out _ _ _ _ OB12.out)
      have P1 := Lib.hid (show 8 + 16 + 16 + N ≤ maxLen by unfold maxLen; omega)
      have P2 := Lib.hid (show (8 + 16 + 16 + N) * 1 ≤ 140737488355328 by omega)
      go_wp2_with (at_builtin; refine wpList_append_row rfl (.tmp 87) (.tmp 88) _ rfl g 5 i0 _ 1 Try.underlying22 HI0.out HZ0.out HZ1.out HZ2.out rfl (.slice A12 (8 + 16 + 16) c12) (8 + 16 + 16) (((hd8 cls lab hop nx N).map (.int .u8)) ++ ((pb sh 8 8 ++ pb sl 8 8).map (.int .u8)) ++ ((pb dh 8 8 ++ pb dl 8 8).map (.int .u8))) rfl OB12.out At2 N ct2 w12.heap.size ((extB X p ++ r).map (.int .u8)) rfl HC13.out HL13.out HR13.out (one_map _) P1.out P2.out HG12.out ?_; intro v14 w14 ho14 hg14; have OB14 := Lib.hid ho14; have HB14 := Lib.hid (below_grown HB12.out OB12.out GB.out HS12.out hg14); have HS14 := Lib.hid (Nat.le_trans HS12.out hg14.size); have HG14 := Lib.hid (Nat.le_trans HG12.out hg14.size); have OT14 := Lib.hid (OT12.out.kept hg14 (NE12.out)); obtain ⟨A14, c14, hv14⟩ := own_slice ho14; subst hv14; clear ho14 hg14)
      go_ret
      have HLEN := Lib.hid (show (extB X p ++ r).length = N from by rw [List.length_append, extB_len, HNN.out, HNTE.out, HM.out])
      have HNB := Lib.hid (show extL X + r.length = N from by rw [HNN.out, HNTE.out, HM.out])
      have HZ := Lib.hid (show sixB ⟨cls, lab, hop, true, sh, sl, true, dh, dl, p⟩ X r = hd8 cls lab hop nx N ++ (pb sh 8 8 ++ pb sl 8 8) ++ (pb dh 8 8 ++ pb dl 8 8) ++ (extB X p ++ r) from by
        show hdB _ (nextK X p) (extL X + r.length) ++ _ = _
        rw [HNB.out, ← HNX.out]
        rfl)
      have HZL := Lib.hid (show (sixB ⟨cls, lab, hop, true, sh, sl, true, dh, dl, p⟩ X r).length = 8 + 16 + 16 + N from by
        rw [HZ.out, List.length_append, HLEN.out, List.length_append, List.length_append, List.length_append, List.length_append, pb_len, pb_len, pb_len, pb_len]
        rfl)
      have hbase : w.heap.size ≤ g := by have := GB.out; omega
      refine ⟨_, rfl, ?_, BA.out.trans (HB14.out.mono (by have := SZ1.out; omega))⟩
      rw [HZL.out, HZ.out, List.map_append, List.map_append, List.map_append]
      exact own_base OB14.out hbase
    · obtain ⟨j, hj⟩ : ∃ j, k = j + 1 := ⟨k - 1, by omega⟩
      subst hj
      have hjX : j < X.length := by rw [HXL.out]; omega
      obtain ⟨x1, x2, x3⟩ := extL_drop p X j hjX
      have hjl : j < l.length := by rw [HL.out]; omega
      obtain ⟨b, off, hA, hbl, hC⟩ := (HR1.out.below (HBW.out.mono (by have := SZ1.out; omega))).at_ j hjl
      subst hA
      obtain ⟨e1, e2, e3, e4, e5⟩ := HR1.out.els l[j] (List.getElem_mem hjl)
      obtain ⟨e, he⟩ : ∃ e, e = l[j] := ⟨_, rfl⟩
      have hXj : X[j] = e.re := by rw [he]; simp [HX.out]
      have hrx := HRE.out.each j hjX
      rw [hXj] at x1 x2 x3 hrx
      rw [← he] at hC e1 e2 e3 e4 e5
      obtain ⟨ek, eA, ec, ed⟩ := e
      have hrz := right_siz hrx e4 [] 0
      have hkb := isX_in hrz.2.2.1
      obtain ⟨q, hq⟩ : ∃ q, q = ed.length := ⟨_, rfl⟩
      have hq7 : 7 ≤ q := by rw [hq]; exact hrz.2.1
      have hx1 : extL (X.drop j) = 1 + q + extL (X.drop (j + 1)) := by rw [hq]; exact x1
      have hxle : extL (X.drop j) ≤ 16384 := Nat.le_trans (extL_drop_le X j) hxl
      obtain ⟨be, oe, hAe, hne⟩ := news_row (show Row w1 w1.heap.size eA (ed.map (.int .u8)) from e1) (by rw [← hq]; omega)
      have hbe : be < w1.heap.size := by
        obtain ⟨b9, o9, h9, h10, _⟩ := (show Row w1 w1.heap.size eA (ed.map (.int .u8)) from e1).at_ (by intro e; rw [List.map_eq_nil_iff] at e; rw [e] at hq; simp at hq; omega)
        rw [hAe] at h9
        injection h9 with h9
        injection h9 with h9
        omega
      have hAe : eA = some ⟨be, oe, none⟩ := hAe
      subst hAe
      have HX2 := Lib.hid (show extB (X.drop j) p = nextK (X.drop (j + 1)) p :: (ed ++ extB (X.drop (j + 1)) p) from x2)
      have HX3 := Lib.hid (show nextK (X.drop j) p = ek from x3)
      have HX1 := Lib.hid hx1
      have d0 : wr.cell? ⟨b, off + j * 2, none⟩ = some (.int .i64 ek) := hC 0 (by omega)
      have d1 : wr.cell? ⟨b, off + j * 2 + 1, none⟩ = some (.slice (some ⟨be, oe, none⟩) q ec) := by rw [hq]; exact hC 1 (by omega)
      have hbw : b < w1.heap.size := (HR1.out.at_lt j hjl rfl)
      obtain ⟨nt, hnt⟩ : ∃ nt, nt = extL (X.drop (j + 1)) := ⟨_, rfl⟩
      have HNT_ := Lib.hid hnt
      rw [← hnt] at hx1 HT hvt
      subst hvt
      have OT := HT
      obtain ⟨w2, hw2⟩ : ∃ w2, w2 = wr.alloc (.cells #[.int .u8 nx] 5) := ⟨_, rfl⟩
      have E2 := Lib.hid hw2
      have BA2 := Lib.hid (show Below wr.heap.size wr w2 from by rw [hw2]; exact (Below.refl _ _).alloc (Nat.le_refl _) _)
      have OWL := Lib.hid (show w2.ownsRow B 5 1 (.slice (some ⟨wr.heap.size, 0, none⟩) 1 1) 1 [.int .u8 nx] from by rw [hw2]; exact own_lit wr B [.int .u8 nx] 1 rfl hZ (by omega))
      have OT2 := Lib.hid (show w2.ownsRow B 5 1 (.slice At nt ct) nt ((extB (X.drop (j + 1)) p).map (.int .u8)) from by rw [hw2]; exact OT.out.alloc _)
      have NEB := Lib.hid (show (Value.slice At nt ct).ownBlock = none ∨ (Value.slice At nt ct).ownBlock ≠ (Value.slice (some ⟨wr.heap.size, 0, none⟩) 1 1).ownBlock from by
        refine .inr fun h => ?_
        have := (OT.out.lt wr.heap.size (by rw [h]; rfl)).2
        omega)
      have HB2 := Lib.hid (HBW.out.trans (BA2.out.mono hZ))
      have HZ2w := Lib.hid (Nat.le_trans hZ BA2.out.size)
      have HNE := Lib.hid (show ∀ i u, (ed.map (Value.int .u8))[i]? = some u → w2.cell? ((⟨be, oe, none⟩ : Addr).add i) = some u from fun i u hu => by
        have h9 := hne i u hu
        rw [Addr.add_lit] at h9 ⊢
        exact (HB2.out.cell (p := ⟨be, oe + i, none⟩) (by show be < B; have := SZ1.out; omega)).trans h9)
      have HLE := Lib.hid (show (ed.map (Value.int .u8)).length = q * 1 from by rw [List.length_map, ← hq, Nat.mul_one])
      have P1 := Lib.hid (show 1 + q ≤ maxLen by unfold maxLen; omega)
      have P2 := Lib.hid (show (1 + q) * 1 ≤ 140737488355328 by omega)
      have P3 := Lib.hid (show (1 + q) + nt ≤ maxLen by unfold maxLen; omega)
      have P4 := Lib.hid (show ((1 + q) + nt) * 1 ≤ 140737488355328 by omega)
      have HLT := Lib.hid (show ((extB (X.drop (j + 1)) p).map (Value.int .u8)).length = nt * 1 from by rw [List.length_map, extB_len, ← hnt, Nat.mul_one])
      have wx : IntKind.u8.wrap nx = nx := by rw [IntKind.wrap_u8']; omega
      have wj : IntKind.i64.wrap ((j : Int) - 1) = (j : Int) - 1 := IntWalk.i64_in _ (by omega)
      have j0 : (0 : Int) ≤ j := by omega
      have j1 : (j : Int) < n := by omega
      have HQ := Lib.hid hq
      have HJ := Lib.hid (show j < n from hk)
      rw [show (((j + 1 : Nat) : Int) - 1) = (j : Int) by omega]
      have hpos2 : j + 1 < n → 0 < nt := by rw [hnt]; exact hpos
      have HOWN := Lib.hid (show ∀ (V : World) (v : Value), V.ownsRow B 5 1 v (1 + q + nt) (([.int .u8 nx] ++ ed.map (.int .u8)) ++ (extB (X.drop (j + 1)) p).map (.int .u8)) → V.ownsRow B 5 1 v (extL (X.drop j)) ((extB (X.drop j) p).map (.int .u8)) from fun V v h => by
        rw [HX1.out, HX2.out, ← HNT_.out, ← HNX.out]
        simpa using h)
      clear x1 x2 x3 hrx hC e1 e2 e3 e4 e5 he hXj hrz hq hne hw2 hnt hbl hjl hjX hx1 hxle hk0 hpos
      have k9b : w2.cell? ⟨w.heap.size, 9, none⟩ = some (.slice (some ⟨b, off, none⟩) n c) := (BA2.out.cell (p := ⟨w.heap.size, 9, none⟩) (by show w.heap.size < wr.heap.size; omega)).trans k9
      have d1b : w2.cell? ⟨b, off + j * 2 + 1, none⟩ = some (.slice (some ⟨be, oe, none⟩) q ec) := (BA2.out.cell (p := ⟨b, off + j * 2 + 1, none⟩) (by show b < wr.heap.size; have := SZ1.out; omega)).trans d1
      rw [E2.out] at k9b d1b
      by_cases hjn : j + 1 = n
      · have hnil := HNIL.out hjn
        injection hnil with ha hb hc
        subst ha hb hc
        clear hpos2 hjn
        go_wp2_with (first | (at_builtin; rw [← E2.out]; refine wpList_append_own _ rfl (.tmp 22) (.tmp 28) _ rfl B 5 i0 _ 1 1 Try.underlying22 HI0.out HZ0.out HZ1.out HZ2.out rfl (by omega) (.slice (some ⟨wr.heap.size, 0, none⟩) 1 1) 1 [.int .u8 nx] rfl OWL.out ⟨be, oe, none⟩ q ec (ed.map (.int .u8)) rfl HLE.out HNE.out (one_map _) P1.out P2.out HZ2w.out ?_; intro va wa owna ga _; have OWA := Lib.hid owna; have OTA := Lib.hid (OT2.out.kept ga NEB.out); have HBa := Lib.hid (below_grown HB2.out OWL.out (Nat.le_refl _) HZ2w.out ga); have HZa := Lib.hid (Nat.le_trans HZ2w.out ga.size); obtain ⟨Aa, ca, hva⟩ := own_slice owna; subst hva; clear owna ga; have b0 : wa.cell? ⟨b, off + j * 2, none⟩ = some (.int .i64 ek) := (HBa.out.cell (p := ⟨b, off + j * 2, none⟩) (by show b < B; have := SZ1.out; omega)).trans ((HBW.out.cell (p := ⟨b, off + j * 2, none⟩) (by show b < B; have := SZ1.out; omega)).symm.trans d0); have b9 : wa.cell? ⟨w.heap.size, 9, none⟩ = some (.slice (some ⟨b, off, none⟩) n c) := (HBa.out.cell (p := ⟨w.heap.size, 9, none⟩) hwB).trans c9) | (at_builtin; refine wpList_append_own_none rfl (.tmp 30) (.tmp 31) _ rfl B 5 i0 1 Try.underlying22 HI0.out (.slice Aa (1 + q) ca) (1 + q) ([.int .u8 nx] ++ ed.map (.int .u8)) rfl OWA.out rfl ?_))
        have HOZ := Lib.hid (HOWN.out wa _ (show wa.ownsRow B 5 1 (.slice Aa (1 + q) ca) (1 + q + 0) (([.int .u8 nx] ++ ed.map (.int .u8)) ++ (extB (X.drop (j + 1)) p).map (.int .u8)) from by
          have e0 : extB (X.drop (j + 1)) p = [] := List.eq_nil_of_length_eq_zero (by rw [extB_len, ← HNT_.out])
          rw [e0]
          simpa using OWA.out))
        go_roundw
        case rel => exact ⟨j, ek, by omega, rfl, rfl, hkb, Lib.hid HX3.out.symm, HOZ, HBa, fun _ => by rw [HX1.out]; omega, Lib.hid (fun h => by have := HJ.out; omega)⟩
        case measure => first | (simp [intOf]; done) | (simp [intOf]; omega)
      · have hnt0 := hpos2 (by omega)
        clear hpos2 hjn
        obtain ⟨gt, ct', hgt, hcells⟩ := news_own OT2.out hnt0 (by rw [extB_len]; exact HNT_.out.symm)
        injection hgt with ha hb hc
        subst ha hc
        clear hb hcells
        have HNTF := Lib.hid (show ∀ V : World, V.ownsRow B 5 1 (.slice (some ⟨gt, 0, none⟩) nt ct) nt ((extB (X.drop (j + 1)) p).map (.int .u8)) → ∀ i u, ((extB (X.drop (j + 1)) p).map (Value.int .u8))[i]? = some u → V.cell? ((⟨gt, 0, none⟩ : Addr).add i) = some u from fun V h => by
          obtain ⟨g9, c9, e9, h9⟩ := news_own h hnt0 (by rw [extB_len]; exact HNT_.out.symm)
          injection e9 with e9
          injection e9 with e9
          injection e9 with e9
          exact e9 ▸ h9)
        go_wp2_with (first | (at_builtin; rw [← E2.out]; refine wpList_append_own _ rfl (.tmp 22) (.tmp 28) _ rfl B 5 i0 _ 1 1 Try.underlying22 HI0.out HZ0.out HZ1.out HZ2.out rfl (by omega) (.slice (some ⟨wr.heap.size, 0, none⟩) 1 1) 1 [.int .u8 nx] rfl OWL.out ⟨be, oe, none⟩ q ec (ed.map (.int .u8)) rfl HLE.out HNE.out (one_map _) P1.out P2.out HZ2w.out ?_; intro va wa owna ga _; have OWA := Lib.hid owna; have OTA := Lib.hid (OT2.out.kept ga NEB.out); have HBa := Lib.hid (below_grown HB2.out OWL.out (Nat.le_refl _) HZ2w.out ga); have HZa := Lib.hid (Nat.le_trans HZ2w.out ga.size); obtain ⟨Aa, ca, hva⟩ := own_slice owna; subst hva; clear owna ga; have b0 : wa.cell? ⟨b, off + j * 2, none⟩ = some (.int .i64 ek) := (HBa.out.cell (p := ⟨b, off + j * 2, none⟩) (by show b < B; have := SZ1.out; omega)).trans ((HBW.out.cell (p := ⟨b, off + j * 2, none⟩) (by show b < B; have := SZ1.out; omega)).symm.trans d0); have b9 : wa.cell? ⟨w.heap.size, 9, none⟩ = some (.slice (some ⟨b, off, none⟩) n c) := (HBa.out.cell (p := ⟨w.heap.size, 9, none⟩) hwB).trans c9; have HNT := Lib.hid (HNTF.out _ OTA.out)) | (at_builtin; refine wpList_append_own _ rfl (.tmp 30) (.tmp 31) _ rfl B 5 i0 _ 1 1 Try.underlying22 HI0.out HZ0.out HZ1.out HZ2.out rfl (by omega) (.slice Aa (1 + q) ca) (1 + q) ([.int .u8 nx] ++ ed.map (.int .u8)) rfl OWA.out ⟨gt, 0, none⟩ nt ct ((extB (X.drop (j + 1)) p).map (.int .u8)) rfl HLT.out HNT.out (one_map _) P3.out P4.out HZa.out ?_; intro vb wb ownb gb _; have OWB := Lib.hid ownb; have HBb := Lib.hid (below_grown HBa.out OWA.out (Nat.le_refl _) HZa.out gb); have HZb := Lib.hid (Nat.le_trans HZa.out gb.size); obtain ⟨Ab, cb, hvb⟩ := own_slice ownb; subst hvb; clear ownb gb; have b0 : wb.cell? ⟨b, off + j * 2, none⟩ = some (.int .i64 ek) := (HBb.out.cell (p := ⟨b, off + j * 2, none⟩) (by show b < B; have := SZ1.out; omega)).trans ((HBW.out.cell (p := ⟨b, off + j * 2, none⟩) (by show b < B; have := SZ1.out; omega)).symm.trans d0); have b9 : wb.cell? ⟨w.heap.size, 9, none⟩ = some (.slice (some ⟨b, off, none⟩) n c) := (HBb.out.cell (p := ⟨w.heap.size, 9, none⟩) hwB).trans c9))
        have HOZ := Lib.hid (HOWN.out wb _ OWB.out)
        go_roundw
        case rel => exact ⟨j, ek, by omega, rfl, rfl, hkb, Lib.hid HX3.out.symm, HOZ, HBb, fun _ => by rw [HX1.out]; omega, Lib.hid (fun h => by have := HJ.out; omega)⟩
        case measure => first | (simp [intOf]; done) | (simp [intOf]; omega)
end Go.Proofs.Ytndekicblbpkjaa.sixK
