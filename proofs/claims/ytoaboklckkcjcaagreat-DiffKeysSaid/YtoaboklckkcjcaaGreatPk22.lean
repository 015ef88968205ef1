/- 2 texts in one. -/
import Derived.Deep.WholeRow
import Derived.Laws.CopyOwn
import Derived.Laws.Tables
import Derived.IntWalk
import Derived.Test.YtoaboklckkcjcaaGreatPk09
import Derived.Test.YtoaboklckkcjcaaGreatPk15
import Derived.Test.YtoaboklckkcjcaaGreatPk16
import Derived.Test.YtoaboklckkcjcaaGreatPk18
import Derived.Test.YtoaboklckkcjcaaGreatPk20
/- Layer 43: where keys go by two sets; how two ways part. -/
namespace Go.Proofs.YtoaboklckkcjcaaGreat.dkA
open Go.ChangeShapes Go.WideShapes Go.ChangeAt Go.RowKit
open Go.Proofs.YtoaboklckkcjcaaGreat.base Go.Proofs.YtoaboklckkcjcaaGreat.dfA Go.Proofs.YtoaboklckkcjcaaGreat.treB Go.Proofs.YtoaboklckkcjcaaGreat.treD Go.Proofs.YtoaboklckkcjcaaGreat.treM Go.Proofs.YtoaboklckkcjcaaGreat.treW Go.Proofs.YtoaboklckkcjcaaGreat.eliW Go.Proofs.YtoaboklckkcjcaaGreat.eliA Go.Proofs.YtoaboklckkcjcaaGreat.eliB Go.Proofs.YtoaboklckkcjcaaGreat.onceBw Go.Proofs.YtoaboklckkcjcaaGreat.onceCw Go.Proofs.YtoaboklckkcjcaaGreat.walkA Go.Proofs.YtoaboklckkcjcaaGreat.walkB Go.Proofs.YtoaboklckkcjcaaGreat.walkC Go.Proofs.YtoaboklckkcjcaaGreat.walkD Go.Proofs.YtoaboklckkcjcaaGreat.walkM
set_option linter.unusedVariables false

theorem lsame_any (v1 v2 : Value) (l : List Int) (w : World) (h1 : ReadI w v1 l) (h2 : ReadI w v2 l) : Calls Tryz.prog 36 #[v1, v2] w fun o w' => o = .returned (.bool true) ∧ Below w.heap.size w w' := by
  obtain ⟨A1, c1, rfl, p1, p2, r1⟩ := h1
  obtain ⟨A2, c2, rfl, p3, p4, r2⟩ := h2
  have R1 := Lib.hid r1
  have R2 := Lib.hid r2
  have HW := Lib.hid (Below.refl w.heap.size w)
  obtain ⟨n, hn⟩ : ∃ n, n = l.length := ⟨_, rfl⟩
  have HN := Lib.hid hn
  rw [← hn] at p1 p3 ⊢
  clear r1 r2 hn
  go_enter Tryz.func36, Tryz.ntmps36
  go_wp2_with fail
  go_loopw [5] (fun i wr => ∃ k : Nat, i = .int .i64 k ∧ k ≤ n ∧ Below w.heap.size w wr) (fun i _ => n - (intOf i).toNat)
  case atStart => exact ⟨0, rfl, by omega, HW.out⟩
  case round =>
    obtain ⟨k, rfl, hk, hbel⟩ := hrel
    have KB := Lib.hid hbel
    clear hbel
    by_cases hkn : k < n
    · have t1 : decide ((k : Int) < n) = true := decide_eq_true (by omega)
      obtain ⟨b1, o1, hA1, x1, d1⟩ := (R1.out.below KB.out).at_ k (by have := HN.out; omega)
      obtain ⟨b2, o2, hA2, x2, d2⟩ := (R2.out.below KB.out).at_ k (by have := HN.out; omega)
      subst hA1 hA2
      obtain ⟨x, hx⟩ : ∃ x, x = l[k]'(by have := HN.out; omega) := ⟨_, rfl⟩
      rw [← hx] at d1 d2
      have s0 : wr.drew.cell? ⟨b1, o1 + k, none⟩ = some (.int .i64 x) ∧ wr.drew.cell? ⟨b2, o2 + k, none⟩ = some (.int .i64 x) := ⟨d1, d2⟩
      have j0 : (0 : Int) ≤ k := by omega
      have j1 : (k : Int) < n := by omega
      clear hx d1 d2 x1 x2
      go_wp2_with fail
      go_region_held3 (fun w' => w'.cell? ⟨b1, o1 + k, none⟩ = some (.int .i64 x) ∧ w'.cell? ⟨b2, o2 + k, none⟩ = some (.int .i64 x)) (assumption) (first | fail)
      go_wp2_with fail
      go_roundw
      case rel => exact ⟨k + 1, by go_num, by omega, KB.out.drew⟩
      case measure => simp [intOf]; omega
    · have t1 : decide ((k : Int) < n) = false := decide_eq_false (by omega)
      go_wp2_with fail
      go_ret
      exact ⟨rfl, KB.out⟩
/-- How many of the first k. -/
def cntF (f : Nat → Bool) : Nat → Nat
  | 0 => 0
  | k + 1 => cntF f k + (if f k = true then 1 else 0)
theorem cntF_le (f : Nat → Bool) : ∀ k, cntF f k ≤ k
  | 0 => Nat.le_refl _
  | k + 1 => by
    have := cntF_le f k
    unfold cntF
    split <;> omega
def keyZ (from' : Int) (i : Nat) : Int := IntKind.u64.wrap (from' + i)
/-- What is told of n keys: how many go elsewhere, how many of them to a host, and how many from it. -/
def movC (p q : Nat → Int) (h : Int) (n : Nat) : Array Value := #[.int .i64 (n : Int), .int .i64 ((cntF (fun i => p i != q i) n : Nat) : Int), .int .i64 ((cntF (fun i => p i != q i && q i == h) n : Nat) : Int), .int .i64 ((cntF (fun i => p i != q i && p i == h) n : Nat) : Int)]
/-- The same, n keys to be looked at and k of them looked at. -/
def movP (p q : Nat → Int) (h : Int) (n k : Nat) : Array Value := #[.int .i64 (n : Int), .int .i64 ((cntF (fun i => p i != q i) k : Nat) : Int), .int .i64 ((cntF (fun i => p i != q i && q i == h) k : Nat) : Int), .int .i64 ((cntF (fun i => p i != q i && p i == h) k : Nat) : Int)]
theorem mov_size : (Tryz.prog.info? 79).map (·.size) = some 4 := by kernel_rfl
theorem wst_put {z w : World} {g k : Nat} {fac seed : Int} {t : TypeId} {cs : Array Value} (h : WSt z g fac seed w) (hk : Blk w k t cs) (ht : t ≠ 24) (hg : k ≠ g) (hz : z.heap.size ≤ k) (o : Nat) (v : Value) : WSt z g fac seed (w.setCell ⟨k, o, none⟩ v) := by
  refine ⟨?_, h.bel.setCell hz _, h.hg⟩
  rcases h.tab with h1 | ⟨q, h1, h2, h3⟩
  · exact .inl (h1.far (Ne.symm hg) _)
  · refine .inr ⟨q, h1, h2.far (Ne.symm hg) _, h3.blk (Below.heap_setCell w ⟨k, o, none⟩ v q fun e => ?_)⟩
    subst e
    obtain ⟨c2, h4, _, _⟩ := h3
    have := Option.some.inj (h4.symm.trans hk)
    injection this with h5 h6
    exact ht h6.symm
theorem blk_setRow {w : World} {g : Nat} {t : TypeId} {cs : Array Value} (h : Blk w g t cs) (c' : Array Value) : Blk (w.setRow g c') g t c' := setRow_heap w g cs c' t (0, 0) h
theorem wst_row {z w : World} {g k : Nat} {fac seed : Int} {t : TypeId} {cs : Array Value} (h : WSt z g fac seed w) (hk : Blk w k t cs) (ht : t ≠ 24) (hg : k ≠ g) (hz : z.heap.size ≤ k) (c' : Array Value) : WSt z g fac seed (w.setRow k c') := by
  refine ⟨?_, below_setRow h.bel hz c', h.hg⟩
  rcases h.tab with h1 | ⟨q, h1, h2, h3⟩
  · exact .inl ((setRow_other w k g c' (Ne.symm hg)).trans h1)
  · refine .inr ⟨q, h1, (setRow_other w k g c' (Ne.symm hg)).trans h2, h3.blk (setRow_other w k q c' fun e => ?_)⟩
    subst e
    obtain ⟨c2, h4, _, _⟩ := h3
    have := Option.some.inj (h4.symm.trans hk)
    injection this with h5 h6
    exact ht h6.symm
theorem aside_row {g : Nat} {a b : World} (h : AsideG g a b) (k : Nat) (hk : a.heap.size ≤ k) (c' : Array Value) : AsideG g a (b.setRow k c') := by
  have hb := below_setRow (Below.refl b.heap.size b |>.mono h.size) hk c'
  exact ⟨hb.os.trans h.os, hb.tape.trans h.tape, hb.output.trans h.output, Nat.le_trans h.size hb.size, fun i h1 h2 => (hb.block i h1).trans (h.block i h1 h2)⟩
set_option maxHeartbeats 16000000 in
set_option maxRecDepth 100000 in
theorem keys_any {z w : World} {g S1 T1 q1 S2 T2 q2 : Nat} {fac seed : Int} {m1 m2 : List Nd} {W1 W2 : Nat → Int} (hs1 : SetOk z S1 T1 q1 m1 W1) (hs2 : SetOk z S2 T2 q2 m2 W2) (h : WSt z g fac seed w) (hm1 : m1.length ≤ 60) (hm2 : m2.length ≤ 60) (hW1 : ∀ i, 0 ≤ W1 i ∧ W1 i < 18446744073709551616) (hW2 : ∀ i, 0 ≤ W2 i ∧ W2 i < 18446744073709551616) (lv host from' keys : Int) (n : Nat) (hn : n ≤ 1000) (hk : min (max keys 0) 65536 = (n : Int)) :
    Calls Tryz.prog 34 #[.pointer (some ⟨g, 0, none⟩), .pointer (some ⟨S1, 0, none⟩), .pointer (some ⟨S2, 0, none⟩), .int .i64 lv, .int .i64 host, .int .u64 from', .int .i64 keys] w (WPost z g fac seed (.agg (movC (fun i => hostW m1 W1 seed fac lv (keyZ from' i)) (fun i => hostW m2 W2 seed fac lv (keyZ from' i)) host n)) w) := by
  have HH1 := Lib.hid (fun V (hV : WSt z g fac seed V) k => host_w hs1 hV hm1 hW1 lv (keyZ from' k))
  have HH2 := Lib.hid (fun V (hV : WSt z g fac seed V) k => host_w hs2 hV hm2 hW2 lv (keyZ from' k))
  obtain ⟨p, hp⟩ : ∃ p, p = fun i : Nat => hostW m1 W1 seed fac lv (keyZ from' i) := ⟨_, rfl⟩
  obtain ⟨q, hq⟩ : ∃ q, q = fun i : Nat => hostW m2 W2 seed fac lv (keyZ from' i) := ⟨_, rfl⟩
  have HP := Lib.hid (show ∀ V, WSt z g fac seed V → ∀ k : Nat, Calls Tryz.prog 21 #[.pointer (some ⟨g, 0, none⟩), .pointer (some ⟨S1, 0, none⟩), .int .i64 lv, .int .u64 (keyZ from' k)] V (WPost z g fac seed (.int .i64 (p k)) V) from fun V hV k => by rw [hp]; exact HH1.out V hV k)
  have HQ := Lib.hid (show ∀ V, WSt z g fac seed V → ∀ k : Nat, Calls Tryz.prog 21 #[.pointer (some ⟨g, 0, none⟩), .pointer (some ⟨S2, 0, none⟩), .int .i64 lv, .int .u64 (keyZ from' k)] V (WPost z g fac seed (.int .i64 (q k)) V) from fun V hV k => by rw [hq]; exact HH2.out V hV k)
  rw [← hp, ← hq]
  have HW := Lib.hid h
  have HG := Lib.hid h.lt
  have HZ := Lib.hid (h.bel.size)
  have HK := Lib.hid hk
  clear hp hq HH1 HH2 hs1 hs2 h hk hW1 hW2
  go_enter Tryz.func34, Tryz.ntmps34
  have hk2 := HK.out
  go_wp2_with fail
  obtain ⟨w0, hw0⟩ : ∃ w0, w0 = (w.alloc (.cells #[.int .i64 0, .int .i64 0, .int .i64 0, .int .i64 0] 79)).alloc (.cells #[.int .i64 (n : Int), .int .i64 0, .int .i64 0, .int .i64 0] 79) := ⟨_, rfl⟩
  have HB0 := Lib.hid (show Below w.heap.size w w0 from by rw [hw0]; exact ((Below.refl w.heap.size w).alloc (Nat.le_refl _) _).alloc (by simp) _)
  have HW0 := Lib.hid (HW.out.below HB0.out)
  have HA0 := Lib.hid (asideB (g := g) HB0.out)
  have HR0 := Lib.hid (show Blk w0 w.heap.size 79 #[.int .i64 0, .int .i64 0, .int .i64 0, .int .i64 0] from by rw [hw0]; exact (Blk.new w _ _).alloc _)
  have HM0 := Lib.hid (show Blk w0 (w.heap.size + 1) 79 (movP p q host n 0) from by
    have e := Blk.new (w.alloc (.cells #[.int .i64 0, .int .i64 0, .int .i64 0, .int .i64 0] 79)) 79 #[.int .i64 (n : Int), .int .i64 0, .int .i64 0, .int .i64 0]
    rw [show (w.alloc (.cells #[.int .i64 0, .int .i64 0, .int .i64 0, .int .i64 0] 79)).heap.size = w.heap.size + 1 by simp] at e
    rw [hw0]
    exact e)
  obtain ⟨r, hr⟩ : ∃ r, r = w.heap.size := ⟨_, rfl⟩
  have HGR := Lib.hid (show g ≠ r ∧ g ≠ r + 1 ∧ z.heap.size ≤ r from by have := HG.out; have := HZ.out; omega)
  have HRR := Lib.hid hr
  rw [← hw0]
  rw [← hr] at HR0 HM0 ⊢
  clear hw0 hk2 hr
  go_loopw [26] (fun i wr => ∃ k : Nat, i = .int .i64 k ∧ k ≤ n ∧ Hid (Blk wr (r + 1) 79 (movP p q host n k)) ∧ Hid (Blk wr r 79 #[.int .i64 0, .int .i64 0, .int .i64 0, .int .i64 0]) ∧ Hid (WSt z g fac seed wr) ∧ Hid (AsideG g w wr)) (fun i _ => n - (intOf i).toNat)
  case atStart => exact ⟨0, rfl, by omega, HM0, HR0, HW0, HA0⟩
  case round =>
    obtain ⟨k, rfl, hk, HM, HR, HWr, HAr⟩ := hrel
    by_cases hkn : k < n
    · have t1 : decide ((k : Int) < n) = true := decide_eq_true (by omega)
      have HP1 := Lib.hid (fun V hV => HP.out V hV k)
      have HQ1 := Lib.hid (fun V hV => HQ.out V hV k)
      have hkz : keyZ from' k = IntKind.u64.wrap (from' + (k : Int)) := rfl
      have wku : IntKind.u64.wrap (k : Int) = (k : Int) := by rw [IntKind.wrap_u64]; omega
      obtain ⟨kz, hkz2⟩ : ∃ kz, kz = keyZ from' k := ⟨_, rfl⟩
      rw [← hkz2] at HP1 HQ1 hkz
      have hkz3 := hkz.symm
      have HPK := Lib.hid (show p k = p k from rfl)
      obtain ⟨x, hx⟩ : ∃ x, x = p k := ⟨_, rfl⟩
      obtain ⟨y, hy⟩ : ∃ y, y = q k := ⟨_, rfl⟩
      rw [← hx] at HP1
      rw [← hy] at HQ1
      have HX := Lib.hid hx
      have HY := Lib.hid hy
      obtain ⟨ca, hca⟩ : ∃ c, c = cntF (fun i => p i != q i) k := ⟨_, rfl⟩
      obtain ⟨ct, hct⟩ : ∃ c, c = cntF (fun i => p i != q i && q i == host) k := ⟨_, rfl⟩
      obtain ⟨cf, hcf⟩ : ∃ c, c = cntF (fun i => p i != q i && p i == host) k := ⟨_, rfl⟩
      have hb1 : ca ≤ 1000 := by have := cntF_le (fun i => p i != q i) k; omega
      have hb2 : ct ≤ 1000 := by have := cntF_le (fun i => p i != q i && q i == host) k; omega
      have hb3 : cf ≤ 1000 := by have := cntF_le (fun i => p i != q i && p i == host) k; omega
      have HMC := Lib.hid (show Blk wr (r + 1) 79 #[.int .i64 (n : Int), .int .i64 (ca : Int), .int .i64 (ct : Int), .int .i64 (cf : Int)] from by rw [hca, hct, hcf]; exact HM.out)
      have HNX := Lib.hid (show movP p q host n (k + 1) = #[.int .i64 (n : Int), .int .i64 ((ca + (if (x != y) = true then 1 else 0) : Nat) : Int), .int .i64 ((ct + (if (x != y && y == host) = true then 1 else 0) : Nat) : Int), .int .i64 ((cf + (if (x != y && x == host) = true then 1 else 0) : Nat) : Int)] from by rw [hca, hct, hcf, hx, hy]; rfl)
      clear hkz hkz2 hx hy hca hct hcf HPK
      go_wp2_with fail
      refine (HP1.out wr HWr.out).mono ?_
      rintro o w1 ⟨rfl, hw1, ha1⟩
      have HW1 := Lib.hid hw1
      have HM1 := Lib.hid (ha1.blk HMC.out (Ne.symm HGR.out.2.1))
      have HR1 := Lib.hid (ha1.blk HR.out (Ne.symm HGR.out.1))
      have HA1 := Lib.hid (HAr.out.trans ha1)
      have HQ2 := Lib.hid (HQ1.out w1 hw1)
      clear hw1 ha1
      go_wp2_with fail
      refine HQ2.out.mono ?_
      rintro o w2 ⟨rfl, hw2, ha2⟩
      have HW2 := Lib.hid hw2
      have HM2 := Lib.hid (ha2.blk HM1.out (Ne.symm HGR.out.2.1))
      have HR2 := Lib.hid (ha2.blk HR1.out (Ne.symm HGR.out.1))
      have HA2 := Lib.hid (HA1.out.trans ha2)
      clear hw2 ha2
      have hty : 79 ≠ 24 := by decide
      cases hxy : (x == y) with
      | true =>
        have HNX2 := Lib.hid (show movP p q host n (k + 1) = #[.int .i64 (n : Int), .int .i64 (ca : Int), .int .i64 (ct : Int), .int .i64 (cf : Int)] from by rw [HNX.out]; simp [bne, hxy])
        go_wp2_with fail
        go_roundw
        case rel => exact ⟨k + 1, by go_num, by omega, Lib.hid (by rw [HNX2.out]; exact HM2.out), HR2, HW2, HA2⟩
        case measure => simp [intOf]; omega
      | false =>
        have d1 : w2.cell? ⟨r + 1, 1, none⟩ = some (.int .i64 (ca : Int)) := HM2.out.cell 1
        have d2 : w2.cell? ⟨r + 1, 2, none⟩ = some (.int .i64 (ct : Int)) := HM2.out.cell 2
        have d3 : w2.cell? ⟨r + 1, 3, none⟩ = some (.int .i64 (cf : Int)) := HM2.out.cell 3
        have f1 : w2.frozen? ⟨r + 1, 1, none⟩ = false := HM2.out.frozen 1
        have f2 : w2.frozen? ⟨r + 1, 2, none⟩ = false := HM2.out.frozen 2
        have f3 : w2.frozen? ⟨r + 1, 3, none⟩ = false := HM2.out.frozen 3
        have wa : IntKind.i64.wrap ((ca : Int) + 1) = (ca : Int) + 1 := IntWalk.i64_in _ (by omega)
        have wt : IntKind.i64.wrap ((ct : Int) + 1) = (ct : Int) + 1 := IntWalk.i64_in _ (by omega)
        have wf : IntKind.i64.wrap ((cf : Int) + 1) = (cf : Int) + 1 := IntWalk.i64_in _ (by omega)
        have KB1 := Lib.hid (show Blk (w2.setCell ⟨r + 1, 1, none⟩ (.int .i64 ((ca : Int) + 1))) (r + 1) 79 #[.int .i64 (n : Int), .int .i64 ((ca : Int) + 1), .int .i64 (ct : Int), .int .i64 (cf : Int)] from HM2.out.set_ 1 _)
        have KR1 := Lib.hid (show Blk (w2.setCell ⟨r + 1, 1, none⟩ (.int .i64 ((ca : Int) + 1))) r 79 #[.int .i64 0, .int .i64 0, .int .i64 0, .int .i64 0] from HR2.out.far (by show r ≠ r + 1; omega) _)
        have KW1 := Lib.hid (wst_put HW2.out HM2.out hty (Ne.symm HGR.out.2.1) (by have := HGR.out; omega) 1 (.int .i64 ((ca : Int) + 1)))
        have KA1 := Lib.hid (HA2.out.new ⟨r + 1, 1, none⟩ (by rw [HRR.out]; show w.heap.size ≤ w.heap.size + 1; omega) (.int .i64 ((ca : Int) + 1)))
        cases hyh : (y == host) with
        | true =>
          cases hxh : (x == host) with
          | true =>
            have KB2 := Lib.hid (show Blk ((w2.setCell ⟨r + 1, 1, none⟩ (.int .i64 ((ca : Int) + 1))).setCell ⟨r + 1, 2, none⟩ (.int .i64 ((ct : Int) + 1))) (r + 1) 79 #[.int .i64 (n : Int), .int .i64 ((ca : Int) + 1), .int .i64 ((ct : Int) + 1), .int .i64 (cf : Int)] from KB1.out.set_ 2 _)
            have KR2 := Lib.hid (show Blk ((w2.setCell ⟨r + 1, 1, none⟩ (.int .i64 ((ca : Int) + 1))).setCell ⟨r + 1, 2, none⟩ (.int .i64 ((ct : Int) + 1))) r 79 #[.int .i64 0, .int .i64 0, .int .i64 0, .int .i64 0] from KR1.out.far (by show r ≠ r + 1; omega) _)
            have KW2 := Lib.hid (wst_put KW1.out KB1.out hty (Ne.symm HGR.out.2.1) (by have := HGR.out; omega) 2 (.int .i64 ((ct : Int) + 1)))
            have KA2 := Lib.hid (KA1.out.new ⟨r + 1, 2, none⟩ (by rw [HRR.out]; show w.heap.size ≤ w.heap.size + 1; omega) (.int .i64 ((ct : Int) + 1)))
            have KB3 := Lib.hid (show Blk (((w2.setCell ⟨r + 1, 1, none⟩ (.int .i64 ((ca : Int) + 1))).setCell ⟨r + 1, 2, none⟩ (.int .i64 ((ct : Int) + 1))).setCell ⟨r + 1, 3, none⟩ (.int .i64 ((cf : Int) + 1))) (r + 1) 79 #[.int .i64 (n : Int), .int .i64 ((ca : Int) + 1), .int .i64 ((ct : Int) + 1), .int .i64 ((cf : Int) + 1)] from KB2.out.set_ 3 _)
            have KR3 := Lib.hid (show Blk (((w2.setCell ⟨r + 1, 1, none⟩ (.int .i64 ((ca : Int) + 1))).setCell ⟨r + 1, 2, none⟩ (.int .i64 ((ct : Int) + 1))).setCell ⟨r + 1, 3, none⟩ (.int .i64 ((cf : Int) + 1))) r 79 #[.int .i64 0, .int .i64 0, .int .i64 0, .int .i64 0] from KR2.out.far (by show r ≠ r + 1; omega) _)
            have KW3 := Lib.hid (wst_put KW2.out KB2.out hty (Ne.symm HGR.out.2.1) (by have := HGR.out; omega) 3 (.int .i64 ((cf : Int) + 1)))
            have KA3 := Lib.hid (KA2.out.new ⟨r + 1, 3, none⟩ (by rw [HRR.out]; show w.heap.size ≤ w.heap.size + 1; omega) (.int .i64 ((cf : Int) + 1)))
            have HNX2 := Lib.hid (show movP p q host n (k + 1) = #[.int .i64 (n : Int), .int .i64 ((ca : Int) + 1), .int .i64 ((ct : Int) + 1), .int .i64 ((cf : Int) + 1)] from by rw [HNX.out]; simp [bne, hxy, hyh, hxh])
            go_wp2_with fail
            go_roundw
            case rel => exact ⟨k + 1, by go_num, by omega, Lib.hid (by rw [HNX2.out]; exact KB3.out), KR3, KW3, KA3⟩
            case measure => simp [intOf]; omega
          | false =>
            have KB2 := Lib.hid (show Blk ((w2.setCell ⟨r + 1, 1, none⟩ (.int .i64 ((ca : Int) + 1))).setCell ⟨r + 1, 2, none⟩ (.int .i64 ((ct : Int) + 1))) (r + 1) 79 #[.int .i64 (n : Int), .int .i64 ((ca : Int) + 1), .int .i64 ((ct : Int) + 1), .int .i64 (cf : Int)] from KB1.out.set_ 2 _)
            have KR2 := Lib.hid (show Blk ((w2.setCell ⟨r + 1, 1, none⟩ (.int .i64 ((ca : Int) + 1))).setCell ⟨r + 1, 2, none⟩ (.int .i64 ((ct : Int) + 1))) r 79 #[.int .i64 0, .int .i64 0, .int .i64 0, .int .i64 0] from KR1.out.far (by show r ≠ r + 1; omega) _)
            have KW2 := Lib.hid (wst_put KW1.out KB1.out hty (Ne.symm HGR.out.2.1) (by have := HGR.out; omega) 2 (.int .i64 ((ct : Int) + 1)))
            have KA2 := Lib.hid (KA1.out.new ⟨r + 1, 2, none⟩ (by rw [HRR.out]; show w.heap.size ≤ w.heap.size + 1; omega) (.int .i64 ((ct : Int) + 1)))
            have HNX2 := Lib.hid (show movP p q host n (k + 1) = #[.int .i64 (n : Int), .int .i64 ((ca : Int) + 1), .int .i64 ((ct : Int) + 1), .int .i64 ((cf : Int))] from by rw [HNX.out]; simp [bne, hxy, hyh, hxh])
            go_wp2_with fail
            go_roundw
            case rel => exact ⟨k + 1, by go_num, by omega, Lib.hid (by rw [HNX2.out]; exact KB2.out), KR2, KW2, KA2⟩
            case measure => simp [intOf]; omega
        | false =>
          cases hxh : (x == host) with
          | true =>
            have KB3 := Lib.hid (show Blk ((w2.setCell ⟨r + 1, 1, none⟩ (.int .i64 ((ca : Int) + 1))).setCell ⟨r + 1, 3, none⟩ (.int .i64 ((cf : Int) + 1))) (r + 1) 79 #[.int .i64 (n : Int), .int .i64 ((ca : Int) + 1), .int .i64 (ct : Int), .int .i64 ((cf : Int) + 1)] from KB1.out.set_ 3 _)
            have KR3 := Lib.hid (show Blk ((w2.setCell ⟨r + 1, 1, none⟩ (.int .i64 ((ca : Int) + 1))).setCell ⟨r + 1, 3, none⟩ (.int .i64 ((cf : Int) + 1))) r 79 #[.int .i64 0, .int .i64 0, .int .i64 0, .int .i64 0] from KR1.out.far (by show r ≠ r + 1; omega) _)
            have KW3 := Lib.hid (wst_put KW1.out KB1.out hty (Ne.symm HGR.out.2.1) (by have := HGR.out; omega) 3 (.int .i64 ((cf : Int) + 1)))
            have KA3 := Lib.hid (KA1.out.new ⟨r + 1, 3, none⟩ (by rw [HRR.out]; show w.heap.size ≤ w.heap.size + 1; omega) (.int .i64 ((cf : Int) + 1)))
            have HNX2 := Lib.hid (show movP p q host n (k + 1) = #[.int .i64 (n : Int), .int .i64 ((ca : Int) + 1), .int .i64 ((ct : Int)), .int .i64 ((cf : Int) + 1)] from by rw [HNX.out]; simp [bne, hxy, hyh, hxh])
            go_wp2_with fail
            go_roundw
            case rel => exact ⟨k + 1, by go_num, by omega, Lib.hid (by rw [HNX2.out]; exact KB3.out), KR3, KW3, KA3⟩
            case measure => simp [intOf]; omega
          | false =>
            have HNX2 := Lib.hid (show movP p q host n (k + 1) = #[.int .i64 (n : Int), .int .i64 ((ca : Int) + 1), .int .i64 ((ct : Int)), .int .i64 ((cf : Int))] from by rw [HNX.out]; simp [bne, hxy, hyh, hxh])
            go_wp2_with fail
            go_roundw
            case rel => exact ⟨k + 1, by go_num, by omega, Lib.hid (by rw [HNX2.out]; exact KB1.out), KR1, KW1, KA1⟩
            case measure => simp [intOf]; omega
    · have t1 : decide ((k : Int) < n) = false := decide_eq_false (by omega)
      obtain rfl : n = k := by omega
      have HMR := Lib.hid (show Blk wr (r + 1) 79 (movC p q host n) from HM.out)
      have HZS := Lib.hid (show (#[.int .i64 0, .int .i64 0, .int .i64 0, .int .i64 0] : Array Value).size = (movC p q host n).size from rfl)
      have HMI := Lib.hid (show (Tryz.prog.info? 79).map (·.size) = some (movC p q host n).size from mov_size)
      have HON := Lib.hid (show (movC p q host n).all (·.oneCell') = true from by simp [movC, Value.oneCell'])
      have HRF := Lib.hid (blk_setRow HR.out (movC p q host n))
      have HWF := Lib.hid (wst_row HWr.out HR.out (by decide) (Ne.symm HGR.out.1) HGR.out.2.2 (movC p q host n))
      have HAF := Lib.hid (aside_row HAr.out r (by rw [HRR.out]; exact Nat.le_refl _) (movC p q host n))
      obtain ⟨cs, hcs⟩ : ∃ cs, cs = movC p q host n := ⟨_, rfl⟩
      rw [← hcs] at HMR HZS HMI HON HRF HWF HAF
      have HCS := Lib.hid hcs
      clear hcs
      go_wp2_with (first
        | (refine wpList_load_row rfl 79 _ rfl (r + 1) rfl 79 cs (0, 0) _ HMR.out Tryz.underlying79 rfl HMI.out ?_)
        | (refine wpList_store_row rfl 79 _ _ rfl r cs rfl rfl 79 _ HR.out HMI.out HZS.out HON.out ?_))
      refine bodyPost_ret (v := .agg cs) (results_cell_row rfl _ _ r 79 cs (0, 0) _ rfl HRF.out Tryz.underlying79 rfl HMI.out) rfl ⟨by rw [HCS.out], HWF.out, HAF.out⟩
set_option maxHeartbeats 8000000 in
set_option maxRecDepth 100000 in
theorem part_any {z w : World} {g S1 T1 q1 S2 T2 q2 : Nat} {fac seed : Int} {m1 m2 : List Nd} {W1 W2 : Nat → Int} (hs1 : SetOk z S1 T1 q1 m1 W1) (hs2 : SetOk z S2 T2 q2 m2 W2) (h : WSt z g fac seed w) (hW1 : ∀ i, 0 ≤ W1 i ∧ W1 i < 18446744073709551616) (hW2 : ∀ i, 0 ≤ W2 i ∧ W2 i < 18446744073709551616) (a key : Int) :
    Calls Tryz.prog 35 #[.pointer (some ⟨g, 0, none⟩), .pointer (some ⟨S1, 0, none⟩), .pointer (some ⟨S2, 0, none⟩), .int .i64 a, .int .u64 key] w fun o w' => ∃ (v1 v2 : Value) (n : Nat), o = .returned (.tuple #[v1, v2, .int .i64 n]) ∧ OwnI w' w.heap.size v1 (downW m1 W1 seed key a) ∧ OwnI w' w.heap.size v2 (downW m2 W2 seed key a) ∧ IsSpl (downW m1 W1 seed key a) (downW m2 W2 seed key a) n ∧ WSt z g fac seed w' ∧ AsideG g w w' := by
  have H1 := Lib.hid (fun V (hV : WSt z g fac seed V) => down_any hs1 hV hW1 a key)
  have H2 := Lib.hid (fun V (hV : WSt z g fac seed V) => down_any hs2 hV hW2 a key)
  obtain ⟨l1, hl1⟩ : ∃ l, l = downW m1 W1 seed key a := ⟨_, rfl⟩
  obtain ⟨l2, hl2⟩ : ∃ l, l = downW m2 W2 seed key a := ⟨_, rfl⟩
  rw [← hl1] at H1 ⊢
  rw [← hl2] at H2 ⊢
  have HW := Lib.hid h
  have hg := h.lt
  clear hs1 hs2 h hl1 hl2 hW1 hW2
  go_enter Tryz.func35, Tryz.ntmps35
  go_wp2_with fail
  refine (H1.out w HW.out).mono ?_
  rintro o w1 ⟨v1, rfl, ho1, hw1, ha1⟩
  have HO1 := Lib.hid ho1
  have HW1 := Lib.hid hw1
  have HA1 := Lib.hid ha1
  clear ho1 hw1 ha1
  go_wp2_with fail
  refine (H2.out w1 HW1.out).mono ?_
  rintro o w2 ⟨v2, rfl, ho2, hw2, ha2⟩
  have HO2 := Lib.hid (ownI_up ho2 HA1.out.size)
  have HO3 := Lib.hid (own_aside HO1.out ha2 hg)
  have HW2 := Lib.hid hw2
  have HA2 := Lib.hid (HA1.out.trans ha2)
  have HSP := Lib.hid (split_any v1 v2 l1 l2 w2 (read_own HO3.out) (read_own HO2.out))
  clear ho2 hw2 ha2
  go_wp2_with fail
  refine HSP.out.mono ?_
  rintro o w3 ⟨n, rfl, hn, hb⟩
  have HN := Lib.hid hn
  have HO4 := Lib.hid (HO3.out.below hb)
  have HO5 := Lib.hid (HO2.out.below hb)
  have HW3 := Lib.hid (HW2.out.below hb)
  have HA3 := Lib.hid (HA2.out.below hb)
  clear hn hb
  go_wp2_with fail
  go_ret3
  exact ⟨_, _, n, rfl, HO4.out, HO5.out, HN.out, HW3.out, HA3.out⟩
end Go.Proofs.YtoaboklckkcjcaaGreat.dkA
/- Layer 43: hosts, as one host with fixed weights above it weighs otherwise, in plain words; Fixed. -/
namespace Go.Proofs.YtoaboklckkcjcaaGreat.dkC
open Go.ChangeShapes Go.WideShapes Go.ChangeAt Go.RowKit
open Go.Proofs.YtoaboklckkcjcaaGreat.base Go.Proofs.YtoaboklckkcjcaaGreat.dfA Go.Proofs.YtoaboklckkcjcaaGreat.treB Go.Proofs.YtoaboklckkcjcaaGreat.treD Go.Proofs.YtoaboklckkcjcaaGreat.treG Go.Proofs.YtoaboklckkcjcaaGreat.treM Go.Proofs.YtoaboklckkcjcaaGreat.treW Go.Proofs.YtoaboklckkcjcaaGreat.treP Go.Proofs.YtoaboklckkcjcaaGreat.eliW Go.Proofs.YtoaboklckkcjcaaGreat.eliA Go.Proofs.YtoaboklckkcjcaaGreat.eliB Go.Proofs.YtoaboklckkcjcaaGreat.eliG Go.Proofs.YtoaboklckkcjcaaGreat.eliH Go.Proofs.YtoaboklckkcjcaaGreat.walkA Go.Proofs.YtoaboklckkcjcaaGreat.walkB Go.Proofs.YtoaboklckkcjcaaGreat.walkC Go.Proofs.YtoaboklckkcjcaaGreat.walkE Go.Proofs.YtoaboklckkcjcaaGreat.walkG Go.Proofs.YtoaboklckkcjcaaGreat.walkL Go.Proofs.YtoaboklckkcjcaaGreat.walkM Go.Proofs.YtoaboklckkcjcaaGreat.walkS Go.Proofs.YtoaboklckkcjcaaGreat.walkT Go.Proofs.YtoaboklckkcjcaaGreat.walkV Go.Proofs.YtoaboklckkcjcaaGreat.dkA
set_option linter.unusedVariables false

section
variable {h : Nat} {m n : List Nd} {H : List Int}
theorem cntL_like (L : Like h m n) (p q : Nat → Bool) (e : ∀ x, p x = q x) (a : Nat) : ∀ l, cntL n p a l = cntL m q a l
  | [] => rfl
  | x :: l => by
    show (if (belU n x.toNat a && p x.toNat) = true then 1 else 0) + cntL n p a l = (if (belU m x.toNat a && q x.toNat) = true then 1 else 0) + cntL m q a l
    rw [cntL_like L p q e a l, belU_like L, e]
theorem lvA_like (L : Like h m n) (q : Nat) : lvA n q = lvA m q := by
  unfold lvA
  rw [ofK_like L]
theorem loads_two (t : Two h m n H) (fac f : Int) : loadsW n (F n H) fac f = loadsW m (F m H) fac f := by
  have e1 : haveL n (F n H) = haveL m (F m H) := by
    unfold haveL
    rw [ofK_like t.L, ofK_like t.L]
    apply List.map_congr_left
    intro q _
    rw [cntL_like t.L (fun x => wtOf n (F n H) x != 0) (fun x => wtOf m (F m H) x != 0) (fun x => t.wtz (x : Int)), lvA_like t.L]
  have e2 : allL n = allL m := by
    unfold allL
    rw [ofK_like t.L, ofK_like t.L]
    apply List.map_congr_left
    intro q _
    rw [cntL_like t.L (fun _ => true) (fun _ => true) (fun _ => rfl), lvA_like t.L]
  unfold loadsW
  rw [e1, e2]
theorem level_two (t : Two h m n H) (seed fac f key : Int) : levelW n (F n H) seed fac f key = levelW m (F m H) seed fac f key := by
  unfold levelW
  rw [loads_two t]
/-- All nodes above the host, but its level, have fixed weights. -/
def FixP (m : List Nd) (h : Int) : Prop := ∀ kd, 2 ≤ kd → kd < (ndAt m h).kind → (ndAt m (upF m kd h)).wt ≠ 0
theorem last_two (t : Two h m n H) (hx : FixP m h) {l l' : List Int} (hP : Parted m h l l') : l = l' ∨ l'.getLast? = some (h : Int) := by
  rcases hP with e | ⟨k, p, q, r, a1, a2, a3, a4, a5, a6, a7, a8, a9, a10, a11, a12, a13, a14, a15, a16⟩
  · exact .inl e
  · right
    have hq4 : (ndAt m (q : Int)).kind = 4 := by
      by_cases hk : (ndAt m (q : Int)).kind = 4
      · exact hk
      · exfalso
        have h0 := a15 hk
        have hlo := t.hf.lo q a4
        have hhi := t.hf.hi q a4
        rw [← treW.ndAt_nat a4] at hlo hhi
        have hu : upF m (ndAt m (q : Int)).kind (h : Int) = (q : Int) := by
          unfold belU at a13
          simpa using a13
        have := hx (ndAt m (q : Int)).kind (by have := a11.2; omega) (by rw [t.h4]; omega)
        rw [hu] at this
        exact this h0
    have hqh : q = h := by
      unfold belU at a13
      have hu : upF m (ndAt m (q : Int)).kind (h : Int) = (q : Int) := by simpa using a13
      have h4 := t.h4
      rw [treW.ndAt_nat t.hm] at h4
      rw [hq4, upF_here 4 t.hm (by simp [h4])] at hu
      omega
    rw [← hqh]
    exact a16 hq4
/-- A key goes where it went, or to the host that weighs more. -/
theorem host_two (t : Two h m n H) (hx : FixP m h) (seed fac f key : Int) : hostW m (F m H) seed fac f key = hostW n (F n H) seed fac f key ∨ (if (ndAt n h).wt < (ndAt m h).wt then hostW m (F m H) seed fac f key = (h : Int) else hostW n (F n H) seed fac f key = (h : Int)) := by
  have hlv := level_two t seed fac f key
  have hrg := level_range m (F m H) seed fac f key
  have e1 : ∀ (m' : List Nd), hostW m' (F m' H) seed fac f key = (wayW m' (F m' H) seed fac f key).getLast?.getD (-1) := fun _ => rfl
  have e2 : ∀ (m' : List Nd), wayW m' (F m' H) seed fac f key = if levelW m' (F m' H) seed fac f key = -1 then [] else downW m' (F m' H) seed key ((ofK m' 1 m'.length).getD (levelW m' (F m' H) seed fac f key).toNat 0) := fun _ => rfl
  rw [e1 m, e1 n, e2 m, e2 n, hlv, ofK_like t.L]
  generalize levelW m (F m H) seed fac f key = x at *
  rcases hrg with rfl | hr
  · left
    rw [if_pos rfl, if_pos rfl]
  · have hne : ¬ x = -1 := by omega
    rw [if_neg hne, if_neg hne]
    have hk : x.toNat < (ofK m 1 m.length).length := by omega
    obtain ⟨a, ea, ha, hka⟩ := ofK_mem (m := m) (kind := 1) (k := m.length) (x := (ofK m 1 m.length)[x.toNat]) (List.getElem_mem hk)
    have hka2 : (ndAt m (a : Int)).kind = 1 := by rw [← walkS.getD_at ha]; exact hka
    rw [List.getD_eq_getElem?_getD, List.getElem?_eq_getElem hk, Option.getD_some, ea]
    have hP := (down_way t seed key ha hka2).2
    unfold toL at hP
    by_cases hlt : (ndAt n (h : Int)).wt < (ndAt m (h : Int)).wt
    · rw [if_pos hlt, if_pos hlt] at hP
      rw [if_pos hlt]
      rcases last_two t hx hP with e | e
      · left; rw [e]
      · right; rw [e]; rfl
    · rw [if_neg hlt, if_neg hlt] at hP
      rw [if_neg hlt]
      rcases last_two t hx hP with e | e
      · left; rw [e]
      · right; rw [e]; rfl
end
theorem cntF_congr {f g : Nat → Bool} (e : ∀ i, f i = g i) : ∀ k, cntF f k = cntF g k
  | 0 => rfl
  | k + 1 => by
    unfold cntF
    rw [cntF_congr e k, e]
theorem cntF_none {f : Nat → Bool} (e : ∀ i, f i = false) : ∀ k, cntF f k = 0
  | 0 => rfl
  | k + 1 => by
    unfold cntF
    rw [cntF_none e k, e]
    rfl
/-- All that goes elsewhere goes to the host. -/
theorem mov_to {p q : Nat → Int} {h : Int} (e : ∀ i, p i = q i ∨ q i = h) (n : Nat) : cntF (fun i => p i != q i && q i == h) n = cntF (fun i => p i != q i) n ∧ cntF (fun i => p i != q i && p i == h) n = 0 := by
  constructor
  · refine cntF_congr (fun i => ?_) n
    rcases e i with h1 | h1
    · simp [h1]
    · simp [h1]
  · refine cntF_none (fun i => ?_) n
    rcases e i with h1 | h1
    · simp [h1]
    · rw [h1]
      cases hq : (p i == h) with
      | false => simp
      | true => simp [bne, hq]
theorem mov_from {p q : Nat → Int} {h : Int} (e : ∀ i, p i = q i ∨ p i = h) (n : Nat) : cntF (fun i => p i != q i && p i == h) n = cntF (fun i => p i != q i) n ∧ cntF (fun i => p i != q i && q i == h) n = 0 := by
  constructor
  · refine cntF_congr (fun i => ?_) n
    rcases e i with h1 | h1
    · simp [h1]
    · simp [h1]
  · refine cntF_none (fun i => ?_) n
    rcases e i with h1 | h1
    · simp [h1]
    · rw [h1]
      cases hq : (h == q i) with
      | false =>
        have h2 : (q i == h) = false := by rw [Bool.beq_comm]; exact hq
        rw [h2, Bool.and_false]
      | true =>
        have h2 : (h != q i) = false := by unfold bne; rw [hq]; rfl
        rw [h2, Bool.false_and]
set_option maxHeartbeats 8000000 in
set_option maxRecDepth 100000 in
theorem fixed_any {w : World} {S T q0 : Nat} {m : List Nd} {W : Nat → Int} (hs : SetOk w S T q0 m W) (at' : Int) (b : Bool) (hbb : b = true ↔ isB at' m.length = true ∧ FixP m at') :
    Calls Tryz.prog 38 #[.pointer (some ⟨S, 0, none⟩), .int .i64 at'] w fun o w' => o = .returned (.bool b) ∧ Below w.heap.size w w' := by
  have HBB := Lib.hid hbb
  clear hbb
  have HS := Lib.hid (show ∀ V, Below w.heap.size w V → SetOk V S T q0 m W from fun V hV => hs.below hV)
  have HF := Lib.hid (fine_of hs.tree.good)
  have HND := Lib.hid (show ∀ V, Below w.heap.size w V → ∀ i, Calls Tryz.prog 30 #[.pointer (some ⟨T, 0, none⟩), .int .i64 i] V fun o w' => o = .returned (.agg (ndAt m i).cells) ∧ Below V.heap.size V w' from fun V hV i => by
    obtain ⟨A2, c2, K2, kc2, ht2⟩ := (HS.out V hV).tree.at_
    exact node_any ht2 i)
  have HUP := Lib.hid (show ∀ V, Below w.heap.size w V → ∀ i kd, Calls Tryz.prog 31 #[.pointer (some ⟨T, 0, none⟩), .int .i64 i, .int .i64 kd] V fun o w' => o = .returned (.int .i64 (upF m kd i)) ∧ w' = V from fun V hV i kd => by
    obtain ⟨A2, c2, K2, kc2, ht2⟩ := (HS.out V hV).tree.at_
    exact up_x ht2 HF.out i kd)
  have d0 : w.cell? ⟨S, 0, none⟩ = some (.pointer (some ⟨T, 0, none⟩)) := hs.set.cell 0
  have HDC := Lib.hid (show ∀ V, Below w.heap.size w V → V.cell? ⟨S, 0, none⟩ = some (.pointer (some ⟨T, 0, none⟩)) from fun V hV => (HS.out V hV).set.cell 0)
  have HN0 := Lib.hid (HND.out w (Below.refl _ _) at')
  obtain ⟨e, he⟩ : ∃ e, e = ndAt m at' := ⟨_, rfl⟩
  have HE := Lib.hid he
  have HKZ := Lib.hid (show ((e.kind = 0) ↔ (isB at' m.length = false)) ∧ 0 ≤ e.kind ∧ e.kind ≤ 4 from by
    rw [he]
    clear HND HUP d0 HDC HN0
    cases hq : isB at' m.length with
    | false => rw [ndAt_none hq]; exact ⟨⟨fun _ => rfl, fun _ => rfl⟩, by decide, by decide⟩
    | true =>
      obtain ⟨b, rfl, hb⟩ := isB_of hq
      rw [treW.ndAt_nat hb]
      have h1 := HF.out.lo b hb
      have h2 := HF.out.hi b hb
      exact ⟨⟨fun h => by omega, fun h => by cases h⟩, by omega, by omega⟩)
  rw [← he] at HN0
  unfold Nd.cells at HN0
  have hfd : ∀ e : Nd, ∀ W, (Instr.field 67 (.agg #[.string e.nm, .int .i64 e.kind, .int .i64 e.ab, .int .i64 e.wt, .bool e.v6, .int .u64 e.hi, .int .u64 e.lo]) 1).run Tryz.prog W = .ok (.int .i64 e.kind) W := fun e _ => by kernel_rfl
  have hfd3 : ∀ e : Nd, ∀ W, (Instr.field 67 (.agg #[.string e.nm, .int .i64 e.kind, .int .i64 e.ab, .int .i64 e.wt, .bool e.v6, .int .u64 e.hi, .int .u64 e.lo]) 3).run Tryz.prog W = .ok (.int .i64 e.wt) W := fun e _ => by kernel_rfl
  have HFD := Lib.hid hfd
  have HFD3 := Lib.hid hfd3
  have hfe := hfd e
  clear hs he hfd hfd3
  go_enter Tryz.func38, Tryz.ntmps38
  go_wp2_with fail
  refine HN0.out.mono ?_
  rintro o w1 ⟨rfl, hb1⟩
  have B1 := Lib.hid hb1
  have d1 := HDC.out w1 hb1
  have HN1 := Lib.hid (HND.out w1 hb1 at')
  rw [← HE.out] at HN1
  unfold Nd.cells at HN1
  clear hb1 d0
  by_cases hz : e.kind = 0
  · have t1 : (e.kind == 0) = true := by simp [hz]
    have HQ := Lib.hid (HKZ.out.1.mp hz)
    have HFL := Lib.hid (show b = false from by
      cases hb9 : b with
      | false => rfl
      | true => have h9 := (HBB.out.mp hb9).1; rw [HQ.out] at h9; cases h9)
    clear hz
    go_wp2_with fail
    go_ret
    exact ⟨by rw [HFL.out]; rfl, B1.out⟩
  · have t1 : (e.kind == 0) = false := beq_false_of_ne hz
    have HQ := Lib.hid (show isB at' m.length = true from by
      cases hq : isB at' m.length with
      | true => rfl
      | false => exact absurd (HKZ.out.1.mpr hq) hz)
    go_wp2_with fail
    refine HN1.out.mono ?_
    rintro o w2 ⟨rfl, hb2⟩
    have B2 := Lib.hid (B1.out.trans (hb2.mono B1.out.size))
    have wk : IntKind.i64.wrap (e.kind - 1) = e.kind - 1 := IntWalk.i64_in _ (by have := HKZ.out; omega)
    have HZ := Lib.hid hz
    clear hb2 hz
    go_wp2_with fail
    go_loopw [5] (fun i wr => ∃ kd : Int, i = .int .i64 kd ∧ 0 ≤ kd ∧ kd < e.kind ∧ Hid (∀ k', kd < k' → k' < e.kind → (ndAt m (upF m k' at')).wt ≠ 0) ∧ Hid (Below w.heap.size w wr)) (fun i _ => (intOf i).toNat)
    case atStart => exact ⟨e.kind - 1, rfl, by have := HKZ.out; have := HZ.out; omega, by omega, Lib.hid (fun k' h1 h2 => by omega), B2⟩
    case round =>
      obtain ⟨kd, rfl, hk0, hk1, HA, HB⟩ := hrel
      by_cases hkd : 1 < kd
      · have t2 : decide (1 < kd) = true := decide_eq_true hkd
        obtain ⟨u, hu⟩ : ∃ u, u = upF m kd at' := ⟨_, rfl⟩
        obtain ⟨x, hx⟩ : ∃ x, x = ndAt m u := ⟨_, rfl⟩
        have HUX := Lib.hid (show (ndAt m (upF m kd at')).wt = x.wt from by rw [hx, hu])
        have HU1 := Lib.hid (show ∀ V, (Below w.heap.size w V ∧ V.cell? ⟨S, 0, none⟩ = some (.pointer (some ⟨T, 0, none⟩))) → Calls Tryz.prog 31 #[.pointer (some ⟨T, 0, none⟩), .int .i64 at', .int .i64 kd] V fun o w' => o = .returned (.int .i64 u) ∧ w' = V from fun V hV => by rw [hu]; exact HUP.out V hV.1 at' kd)
        have HX1 := Lib.hid (show ∀ V, (Below w.heap.size w V ∧ V.cell? ⟨S, 0, none⟩ = some (.pointer (some ⟨T, 0, none⟩))) → Calls Tryz.prog 30 #[.pointer (some ⟨T, 0, none⟩), .int .i64 u] V fun o w' => o = .returned (.agg #[.string x.nm, .int .i64 x.kind, .int .i64 x.ab, .int .i64 x.wt, .bool x.v6, .int .u64 x.hi, .int .u64 x.lo]) ∧ (Below w.heap.size w w' ∧ w'.cell? ⟨S, 0, none⟩ = some (.pointer (some ⟨T, 0, none⟩))) from fun V hV => by
          refine (HND.out V hV.1 u).mono ?_
          rintro o w' ⟨e1, hb⟩
          have hb2 := hV.1.trans (hb.mono hV.1.size)
          exact ⟨by rw [hx]; exact e1, hb2, HDC.out w' hb2⟩)
        have k0 : Below w.heap.size w wr.drew ∧ wr.drew.cell? ⟨S, 0, none⟩ = some (.pointer (some ⟨T, 0, none⟩)) := ⟨HB.out.drew, HDC.out wr HB.out⟩
        have hf3 := HFD3.out x
        clear hu hx t1
        go_wp2_with fail
        go_region_held3 (fun w' => Below w.heap.size w w' ∧ w'.cell? ⟨S, 0, none⟩ = some (.pointer (some ⟨T, 0, none⟩)))
          (first | with_reducible exact k0 | with_reducible assumption)
          (first
            | (go_at_call 31; (with_reducible refine (HU1.out _ (by assumption)).mono ?_); rintro o w' ⟨rfl, rfl⟩)
            | (go_at_call 30; (with_reducible refine (HX1.out _ (by assumption)).mono ?_); rintro o w' ⟨rfl, hkk⟩))
        rename_i hH
        have HB2 := Lib.hid hH.1
        clear hH hkk k0 hf3
        by_cases hw0 : x.wt = 0
        · have t3 : (x.wt == 0) = true := by simp [hw0]
          have HNO := Lib.hid (show ¬ FixP m at' from fun hp => by
            have := hp kd (by omega) (by rw [← HE.out]; exact hk1)
            rw [HUX.out] at this
            exact this hw0)
          have HFL := Lib.hid (show b = false from by
            cases hb9 : b with
            | false => rfl
            | true => exact absurd (HBB.out.mp hb9).2 HNO.out)
          clear hw0
          go_wp2_with fail
          go_ret
          exact ⟨by rw [HFL.out]; rfl, HB2.out⟩
        · have t3 : (x.wt == 0) = false := beq_false_of_ne hw0
          have wk2 : IntKind.i64.wrap (kd - 1) = kd - 1 := IntWalk.i64_in _ (by have := HKZ.out; omega)
          have HA2 := Lib.hid (show ∀ k', kd - 1 < k' → k' < e.kind → (ndAt m (upF m k' at')).wt ≠ 0 from fun k' h1 h2 => by
            by_cases hkk : k' = kd
            · subst hkk; rw [HUX.out]; exact hw0
            · exact HA.out k' (by omega) h2)
          clear hw0
          go_wp2_with fail
          go_roundw
          case rel => exact ⟨kd - 1, by go_num, by omega, by omega, HA2, HB2⟩
          case measure => simp [intOf]; omega
      · have t2 : decide (1 < kd) = false := decide_eq_false hkd
        have HYES := Lib.hid (show FixP m at' from fun k' h1 h2 => HA.out k' (by omega) (by rw [HE.out]; exact h2))
        have HTR := Lib.hid (show b = true from HBB.out.mpr ⟨HQ.out, HYES.out⟩)
        go_wp2_with fail
        go_ret
        exact ⟨by rw [HTR.out]; rfl, HB.out⟩
end Go.Proofs.YtoaboklckkcjcaaGreat.dkC
