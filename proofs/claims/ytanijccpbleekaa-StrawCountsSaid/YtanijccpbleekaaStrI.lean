/- Layer 25: how often each item is picked. -/
import Derived.Test.YtanijccpbleekaaStrE
import Derived.Test.YtanijccpbleekaaMem
namespace Go.Proofs.Ytanijccpbleekaa.strI
open Go.ChangeShapes Go.WideShapes Go.ChangeAt Go.RowKit
open Go.Proofs.Ytanijccpbleekaa.base Go.Proofs.Ytanijccpbleekaa.onceB Go.Proofs.Ytanijccpbleekaa.onceC Go.Proofs.Ytanijccpbleekaa.wideG Go.Proofs.Ytanijccpbleekaa.wideH Go.Proofs.Ytanijccpbleekaa.wideI Go.Proofs.Ytanijccpbleekaa.strA Go.Proofs.Ytanijccpbleekaa.strB Go.Proofs.Ytanijccpbleekaa.strC Go.Proofs.Ytanijccpbleekaa.strD Go.Proofs.Ytanijccpbleekaa.strE
set_option linter.unusedVariables false

def tabI (n : Nat) (f : Nat → Int) : Array Value := ((List.range n).map fun i => Value.int .i64 (f i)).toArray
theorem tabI_size (n : Nat) (f : Nat → Int) : (tabI n f).size = n := by simp [tabI]
theorem tabI_get (n : Nat) (f : Nat → Int) (i : Nat) (h : i < n) : (tabI n f)[i]? = some (.int .i64 (f i)) := by simp [tabI, h]
theorem tabI_zero (n : Nat) : zeros n (.int .i64 0) = tabI n fun _ => 0 := by simp [zeros, tabI, List.map_const']
theorem tabI_congr {n : Nat} {f g : Nat → Int} (h : ∀ i, i < n → f i = g i) : tabI n f = tabI n g := by
  unfold tabI
  congr 1
  apply List.map_congr_left
  intro i hi
  rw [h i (by simpa using hi)]
theorem tabI_set (n : Nat) (f g : Nat → Int) (j : Nat) (x : Int) (hj : j < n) (h1 : g j = x) (h2 : ∀ i, i ≠ j → g i = f i) : (tabI n f).setIfInBounds j (.int .i64 x) = tabI n g := by
  apply Array.ext'
  apply List.ext_getElem?
  intro i
  rw [Array.getElem?_toList, Array.getElem?_toList]
  by_cases e : i = j
  · subst e
    rw [Array.getElem?_setIfInBounds_self_of_lt (by rw [tabI_size]; exact hj), tabI_get n g i hj, h1]
  · rw [Array.getElem?_setIfInBounds_ne (Ne.symm e)]
    by_cases hi : i < n
    · rw [tabI_get n f i hi, tabI_get n g i hi, h2 i e]
    · rw [Array.getElem?_eq_none (by rw [tabI_size]; omega), Array.getElem?_eq_none (by rw [tabI_size]; omega)]
def kz (from' : Int) (q : Nat) : Int := IntKind.u64.wrap (from' + (q : Int))
/-- How often the first q keys pick item j. -/
def cnt (from' : Int) (l : List (Int × Int)) (n : Nat) : Nat → Nat → Int
  | 0, _ => 0
  | q + 1, j => cnt from' l n q j + if pk (kz from' q) l n = some j then 1 else 0
theorem cnt_bd (from' : Int) (l : List (Int × Int)) (n : Nat) : ∀ q j, 0 ≤ cnt from' l n q j ∧ cnt from' l n q j ≤ q
  | 0, _ => by simp [cnt]
  | q + 1, j => by
    have := cnt_bd from' l n q j
    unfold cnt
    split <;> omega
theorem cnt_none {from' : Int} {l : List (Int × Int)} {n q : Nat} (h : pk (kz from' q) l n = none) : tabI n (cnt from' l n q) = tabI n (cnt from' l n (q + 1)) := tabI_congr fun i _ => by
  show _ = cnt from' l n q i + _
  rw [h]
  simp
theorem cnt_some {from' : Int} {l : List (Int × Int)} {n q j : Nat} (h : pk (kz from' q) l n = some j) (hj : j < n) (x : Int) (hx : x = cnt from' l n q j + 1) : (tabI n (cnt from' l n q)).setIfInBounds j (.int .i64 x) = tabI n (cnt from' l n (q + 1)) := by
  refine tabI_set n _ _ j x hj ?_ fun i hi => ?_
  · show cnt from' l n q j + _ = x
    rw [h, if_pos rfl, hx]
  · show cnt from' l n q i + _ = _
    rw [h, if_neg (by simpa using Ne.symm hi), Int.add_zero]
theorem tab_int {g : Nat} {T : TypeId} {w : World} (h : Tab g T w) {k : Nat} {t : TypeId} {cs : Array Value} (hk : Blk w k t cs) (hs : t ≠ 38) (hg : k ≠ g) (o : Nat) (v : Value) : Tab g T (w.setCell ⟨k, o, none⟩ v) := by
  rcases h with h | ⟨q, h1, h2, h3⟩
  · exact .inl (h.far (fun e => hg e.symm) v)
  · refine .inr ⟨q, h1, h2.far (fun e => hg e.symm) v, h3.blk (Below.heap_setCell w ⟨k, o, none⟩ v q fun e => ?_)⟩
    obtain ⟨ds, h4, h5, _⟩ := h3
    have e2 : q = k := e
    subst e2
    have := Option.some.inj (h4.symm.trans hk)
    injection this with h6 h7
    exact hs h7.symm
theorem info_int : (Try.prog.info? 3).map (fun i => (i.zero, i.size, i.bytes)) = some (some (.int .i64 0), 1, 8) := by kernel_rfl
def CountPost (g : Nat) (T : TypeId) (n : Nat) (f : Nat → Int) (w : World) (e : Ending) (w' : World) : Prop := ∃ h, e = .returned (.slice (some ⟨h, 0, none⟩) n n) ∧ w.heap.size ≤ h ∧ Blk w' h 3 (tabI n f) ∧ Aside g w w'
set_option maxRecDepth 100000 in
set_option maxHeartbeats 4000000 in
theorem count_any (g : Nat) (T : TypeId) (from' kv : Int) (A : Option Addr) (n c : Nat) (l : List (Int × Int)) (w : World) (ht : Tab g T w) (hl : l.length = n) (hn : n ≤ 1000) (hk : kv ≤ 60) (hg : ∀ i, good (l.getD i (0, 0))) (hr : ∀ w', Aside g w w' → Row2 w' w'.heap.size A l) :
    Calls Try.prog 17 #[.pointer (some ⟨g, 0, none⟩), .int .u64 from', .int .i64 kv, .slice A n c] w (CountPost g T n (cnt from' l n kv.toNat) w) := by
  obtain ⟨i0, hi0, hz0, hz1, hz2⟩ := info_parts info_int
  have hmk := run_make_one (P := Try.prog) 56 3 i0 _ Try.underlying56 hi0 hz0 hz1 rfl .i64 .i64 (n : Int) (by omega) (by rw [hz2]; omega) (by omega) w
  rw [Int.toNat_natCast] at hmk
  have HGL := Lib.hid (tab_lt ht)
  have hba : Below w.heap.size w (w.alloc (.cells (zeros n (.int .i64 0)) 3)) := (Below.refl w.heap.size w).alloc (Nat.le_refl _) _
  have HT0 := Lib.hid (tab_below ht hba)
  have HA0 := Lib.hid ((Aside.refl g w).below hba)
  have HB0 := Lib.hid (show Blk (w.alloc (.cells (zeros n (.int .i64 0)) 3)) w.heap.size 3 (tabI n (cnt from' l n 0)) from by
    have := Blk.new w 3 (zeros n (.int .i64 0))
    rw [tabI_zero] at this ⊢
    exact this)
  have HR := Lib.hid hr
  have HL := Lib.hid hl
  have HG := Lib.hid hg
  clear ht hl hg hr hi0 hz0 hz1 hz2 hba
  go_enter Try.func17, Try.ntmps17
  go_wp2_with fail
  clear hmk
  go_loopw [16] (fun i wr => ∃ q : Nat, i = .int .i64 q ∧ q ≤ kv.toNat ∧ Tab g T wr ∧ Aside g w wr ∧ Blk wr w.heap.size 3 (tabI n (cnt from' l n q))) (fun i _ => kv.toNat - (intOf i).toNat)
  case atStart => exact ⟨0, rfl, by omega, HT0.out, HA0.out, HB0.out⟩
  case round =>
    obtain ⟨q, rfl, hq, htb, has, hbl⟩ := hrel
    have KT := Lib.hid htb
    have KA := Lib.hid has
    have KB := Lib.hid hbl
    clear htb has hbl
    by_cases hqk : (q : Int) < kv
    · have t1 : decide ((q : Int) < kv) = true := decide_eq_true hqk
      have HPK := Lib.hid (show ∀ key, Calls Try.prog 12 #[.pointer (some ⟨g, 0, none⟩), .int .u64 key, .slice A n c] wr (PickPost g T (plc (pk key l n)) wr) from fun key => strD.pick_any g T key A n c l wr KT.out HL.out hn HG.out (fun w' ha => HR.out w' (KA.out.trans ha)))
      go_wp2_with fail
      refine (HPK.out _).mono ?_
      rintro e w3 ⟨rfl, ht3, ha3⟩
      have HT3 := Lib.hid ht3
      have HA3 := Lib.hid (KA.out.trans ha3)
      have HB3 := Lib.hid (ha3.blk KB.out (show w.heap.size ≠ g by have := HGL.out; omega))
      clear ht3 ha3
      rw [show IntKind.u64.wrap (from' + (q : Int)) = kz from' q from rfl]
      have hpl := pk_lt (kz from' q) l n
      cases hm : pk (kz from' q) l n with
      | none =>
        have HX := Lib.hid (cnt_none hm)
        clear hm hpl
        rw [show plc none = -1 from rfl]
        go_wp2_with fail
        go_roundw
        case rel => exact ⟨q + 1, by go_num, by omega, HT3.out, HA3.out, by rw [← HX.out]; exact HB3.out⟩
        case measure => simp [intOf]; omega
      | some j =>
        have hj := (hpl j hm).1
        have hcb := cnt_bd from' l n q j
        have HX := Lib.hid (cnt_some hm hj)
        have t2 : ((j : Int) != -1) = true := by rw [bne_iff_ne]; omega
        have d0 : w3.cell? ⟨w.heap.size, j, none⟩ = some (.int .i64 (cnt from' l n q j)) := by rw [HB3.out.cell j]; exact tabI_get n _ j hj
        have f0 : w3.frozen? ⟨w.heap.size, j, none⟩ = false := HB3.out.frozen j
        have HB4 := Lib.hid (HB3.out.set_ j (.int .i64 (cnt from' l n q j + 1)))
        have HT4 := Lib.hid (tab_int HT3.out HB3.out (by decide) (show w.heap.size ≠ g by have := HGL.out; omega) j (.int .i64 (cnt from' l n q j + 1)))
        have HA4 := Lib.hid (HA3.out.new ⟨w.heap.size, j, none⟩ (Nat.le_refl _) (.int .i64 (cnt from' l n q j + 1)))
        have j0 : (0 : Int) ≤ j := by omega
        have j1 : (j : Int) < n := by omega
        have HX2 := Lib.hid (HX.out (cnt from' l n q j + 1) rfl)
        clear hm hpl HX
        generalize cnt from' l n q j = z at *
        rw [show plc (some j) = (j : Int) from rfl]
        go_wp2_with fail
        clear d0 f0
        go_roundw
        case rel => exact ⟨q + 1, by go_num, by omega, HT4.out, HA4.out, by rw [← HX2.out]; exact HB4.out⟩
        case measure => simp [intOf]; omega
    · have t1 : decide ((q : Int) < kv) = false := decide_eq_false hqk
      have hqk2 : q = kv.toNat := by omega
      have HP := Lib.hid (show CountPost g T n (cnt from' l n kv.toNat) w (.returned (.slice (some ⟨w.heap.size, 0, none⟩) n n)) wr from ⟨_, rfl, Nat.le_refl _, hqk2 ▸ KB.out, KA.out⟩)
      clear hqk2
      go_wp2_with fail
      go_ret
      exact HP.out
set_option maxRecDepth 100000 in
set_option maxHeartbeats 4000000 in
theorem counts_big (from' ks : Int) (v : Value) (A : Option Addr) (m c : Nat) (l : List (Int × Int)) (w : World) (hf : ∀ W, Calls Try.prog 11 #[v] W fun o w' => o = .returned (.slice A m c) ∧ W = w')
    (h : 60 < ks) (hl : l.length = m) (hm : m ≤ 30) (hg : ∀ i, good (l.getD i (0, 0))) (hr : Row2 w w.heap.size A l) :
    Calls Try.prog 5 #[.int .u64 from', .int .i64 ks, v] w fun e w' => e = .returned (.bool true) ∧ Below w.heap.size w w' := by
  obtain ⟨i0, hi0, hz0, hz1, hz2⟩ := info_parts info_int
  have hmk := fun (W : World) => run_make_one (P := Try.prog) 56 3 i0 _ Try.underlying56 hi0 hz0 hz1 rfl .i64 .i64 (m : Int) (by omega) (by rw [hz2]; omega) (by omega) W
  simp only [Int.toNat_natCast] at hmk
  have t0 : decide (60 < ks) = true := decide_eq_true h
  have HF := Lib.hid hf
  have HR := Lib.hid hr
  have HL := Lib.hid hl
  have HG := Lib.hid hg
  obtain ⟨w1, hw1⟩ : ∃ w1, w1 = w.alloc (.cells (TabC 0 0 (.slice none 0 0)) 48) := ⟨_, rfl⟩
  have HW1 := Lib.hid (show w.alloc (.cells #[.int .u32 0, .int .i32 0, .int .u32 0, .slice none 0 0] 48) = w1 from hw1.symm)
  have HT1 := Lib.hid (show Tab w.heap.size 48 w1 from .inl (hw1 ▸ Blk.new w _ _))
  have HB1 := Lib.hid (show Below w.heap.size w w1 from hw1 ▸ (Below.refl w.heap.size w).alloc (Nat.le_refl _) _)
  have HC1 := Lib.hid (count_any w.heap.size 48 from' (60 : Int) A m c l w1 HT1.out HL.out (by omega) (by omega) HG.out (fun w' ha => rows_keep HR.out HB1.out (Nat.le_refl _) ha))
  have HMK := Lib.hid hmk
  clear hf hr hl hg hw1 hmk hi0 hz0 hz1 hz2
  go_enter Try.func5, Try.ntmps5
  go_wp2_with fail
  refine (HF.out _).mono ?_
  rintro e w' ⟨rfl, rfl⟩
  go_wp2_with fail
  rw [HW1.out]
  refine HC1.out.mono ?_
  rintro e w2 ⟨h, rfl, hh, hb2, ha2⟩
  have HB2 := Lib.hid (ha2.from HB1.out (Nat.le_refl _) (Nat.le_refl _))
  have HK2 := Lib.hid hb2
  have hne : ((m : Int) != (m : Int)) = false := by simp
  have hmk2 := HMK.out w2
  have hba : Below w2.heap.size w2 (w2.alloc (.cells (zeros m (.int .i64 0)) 3)) := (Below.refl w2.heap.size w2).alloc (Nat.le_refl _) _
  have HB3 := Lib.hid (HB2.out.trans (hba.mono HB2.out.size))
  have HK3 := Lib.hid (HK2.out.alloc (.cells (zeros m (.int .i64 0)) 3))
  have HV3 := Lib.hid (show Blk (w2.alloc (.cells (zeros m (.int .i64 0)) 3)) w2.heap.size 3 (tabI m (cnt from' l m 0)) from by
    have := Blk.new w2 3 (zeros m (.int .i64 0))
    rw [tabI_zero] at this ⊢
    exact this)
  have HHL := Lib.hid (show h < w2.heap.size from hb2.lt)
  have HWL := Lib.hid (show w.heap.size ≤ w2.heap.size from HB2.out.size)
  clear hh hb2 ha2 hba
  go_wp2_with fail
  clear hmk2
  go_loopw [10, 11] (fun i k wr => ∃ q : Nat, i = .int .i64 q ∧ q ≤ ((60 : Int)).toNat ∧ Below w.heap.size w wr ∧ Blk wr h 3 (tabI m (cnt from' l m ((60 : Int)).toNat)) ∧ Blk wr w2.heap.size 3 (tabI m (cnt from' l m q))) (fun i _ _ => ((60 : Int)).toNat - (intOf i).toNat)
  case atStart => exact ⟨0, rfl, by omega, HB3.out, HK3.out, HV3.out⟩
  case round =>
    obtain ⟨q, rfl, hq, hbw, hbk, hbl⟩ := hrel
    have KW := Lib.hid hbw
    have KK := Lib.hid hbk
    have KB := Lib.hid hbl
    clear hbw hbk hbl
    by_cases hqk : (q : Int) < (60 : Int)
    · have t1 : decide ((q : Int) < (60 : Int)) = true := decide_eq_true hqk
      have HPK := Lib.hid (show ∀ key, Calls Try.prog 13 #[.int .u64 key, .slice A m c] wr (fun e w' => e = .returned (.int .i64 (plc (pk key l m))) ∧ Below wr.heap.size wr w') from fun key => strB.pick_any key A m c l wr HL.out (by omega) HG.out (Row2.more (HR.out.below KW.out) KW.out.size))
      go_wp2_with fail
      refine (HPK.out _).mono ?_
      rintro e w3 ⟨rfl, hb3⟩
      have HW3 := Lib.hid (KW.out.trans (hb3.mono KW.out.size))
      have HK3 := Lib.hid (KK.out.below hb3 KK.out.lt)
      have HB3 := Lib.hid (KB.out.below hb3 KB.out.lt)
      clear hb3
      rw [show IntKind.u64.wrap (from' + (q : Int)) = kz from' q from rfl]
      have hpl := pk_lt (kz from' q) l m
      cases hm : pk (kz from' q) l m with
      | none =>
        have HX := Lib.hid (cnt_none hm)
        clear hm hpl
        rw [show plc none = -1 from rfl]
        go_wp2_with fail
        go_roundw
        case rel => exact ⟨q + 1, by go_num, by omega, HW3.out, HK3.out, by rw [← HX.out]; exact HB3.out⟩
        case measure => simp [intOf]; omega
      | some j =>
        have hj := (hpl j hm).1
        have hcb := cnt_bd from' l m q j
        have HX := Lib.hid (cnt_some hm hj)
        have t2 : decide ((0 : Int) ≤ j) = true := decide_eq_true (by omega)
        have d0 : w3.cell? ⟨w2.heap.size, j, none⟩ = some (.int .i64 (cnt from' l m q j)) := by rw [HB3.out.cell j]; exact tabI_get m _ j hj
        have f0 : w3.frozen? ⟨w2.heap.size, j, none⟩ = false := HB3.out.frozen j
        have HB4 := Lib.hid (HB3.out.set_ j (.int .i64 (cnt from' l m q j + 1)))
        have HK4 := Lib.hid (HK3.out.far (show h ≠ (⟨w2.heap.size, j, none⟩ : Addr).block by have := HHL.out; simp; omega) (.int .i64 (cnt from' l m q j + 1)))
        have HW4 := Lib.hid (HW3.out.setCell (p := ⟨w2.heap.size, j, none⟩) HWL.out (.int .i64 (cnt from' l m q j + 1)))
        have j0 : (0 : Int) ≤ j := by omega
        have j1 : (j : Int) < m := by omega
        have HX2 := Lib.hid (HX.out (cnt from' l m q j + 1) rfl)
        clear hm hpl HX
        generalize cnt from' l m q j = z at *
        rw [show plc (some j) = (j : Int) from rfl]
        go_wp2_with fail
        clear d0 f0
        go_roundw
        case rel => exact ⟨q + 1, by go_num, by omega, HW4.out, HK4.out, by rw [← HX2.out]; exact HB4.out⟩
        case measure => simp [intOf]; omega
    · have t1 : decide ((q : Int) < (60 : Int)) = false := decide_eq_false hqk
      have hqk2 : q = ((60 : Int)).toNat := by omega
      have KV := Lib.hid (hqk2 ▸ KB.out)
      clear hqk2 KB
      generalize cnt from' l m ((60 : Int)).toNat = f at *
      go_wp2_with fail
      go_loopw [12] (fun i wz => ∃ p : Nat, i = .int .i64 p ∧ p ≤ m ∧ Below wr.heap.size wr wz) (fun i _ => m - (intOf i).toNat)
      case atStart => exact ⟨0, rfl, by omega, Below.refl _ _⟩
      case round =>
        obtain ⟨p, rfl, hp, hbz⟩ := hrel
        have HBZ := Lib.hid hbz
        clear hbz
        by_cases hpm : p < m
        · have t2 : decide ((p : Int) < m) = true := decide_eq_true (by omega)
          have t2b : decide (p < m) = true := decide_eq_true hpm
          have k1 := KK.out.below HBZ.out KK.out.lt
          have k2 := KV.out.below HBZ.out KV.out.lt
          have d1 : wr.cell? ⟨h, p, none⟩ = some (.int .i64 (f p)) := by rw [k1.cell p]; exact tabI_get m f p hpm
          have d2 : wr.cell? ⟨w2.heap.size, p, none⟩ = some (.int .i64 (f p)) := by rw [k2.cell p]; exact tabI_get m f p hpm
          have p0 : (0 : Int) ≤ p := by omega
          have p1 : (p : Int) < m := by omega
          have hfn : (f p != f p) = false := by simp
          clear k1 k2
          generalize f p = z at *
          go_wp2_with fail
          go_quiet (fail)
          clear d1 d2
          go_wp2_with fail
          go_roundw
          case rel => exact ⟨p + 1, by go_num, by omega, below_drewN HBZ.out _⟩
          case measure => simp [intOf]; omega
        · have t2 : decide ((p : Int) < m) = false := decide_eq_false (by omega)
          have t2b : decide (p < m) = false := decide_eq_false hpm
          have HAW := Lib.hid (awake_any wr)
          have HBX := Lib.hid (KW.out.trans (HBZ.out.mono KW.out.size))
          go_wp2_with fail
          refine HAW.out.mono ?_
          rintro e wq ⟨rfl, hbq⟩
          have HZ := Lib.hid (HBX.out.trans (hbq.mono HBX.out.size))
          clear hbq
          go_wp2_with fail
          go_ret
          exact ⟨rfl, HZ.out⟩
set_option maxRecDepth 100000 in
set_option maxHeartbeats 4000000 in
theorem counts_small (from' ks : Int) (v : Value) (A : Option Addr) (m c : Nat) (l : List (Int × Int)) (w : World) (hf : ∀ W, Calls Try.prog 11 #[v] W fun o w' => o = .returned (.slice A m c) ∧ W = w')
    (h : ks ≤ 60) (hl : l.length = m) (hm : m ≤ 30) (hg : ∀ i, good (l.getD i (0, 0))) (hr : Row2 w w.heap.size A l) :
    Calls Try.prog 5 #[.int .u64 from', .int .i64 ks, v] w fun e w' => e = .returned (.bool true) ∧ Below w.heap.size w w' := by
  obtain ⟨i0, hi0, hz0, hz1, hz2⟩ := info_parts info_int
  have hmk := fun (W : World) => run_make_one (P := Try.prog) 56 3 i0 _ Try.underlying56 hi0 hz0 hz1 rfl .i64 .i64 (m : Int) (by omega) (by rw [hz2]; omega) (by omega) W
  simp only [Int.toNat_natCast] at hmk
  have t0 : decide (60 < ks) = false := decide_eq_false (by omega)
  have HF := Lib.hid hf
  have HR := Lib.hid hr
  have HL := Lib.hid hl
  have HG := Lib.hid hg
  obtain ⟨w1, hw1⟩ : ∃ w1, w1 = w.alloc (.cells (TabC 0 0 (.slice none 0 0)) 48) := ⟨_, rfl⟩
  have HW1 := Lib.hid (show w.alloc (.cells #[.int .u32 0, .int .i32 0, .int .u32 0, .slice none 0 0] 48) = w1 from hw1.symm)
  have HT1 := Lib.hid (show Tab w.heap.size 48 w1 from .inl (hw1 ▸ Blk.new w _ _))
  have HB1 := Lib.hid (show Below w.heap.size w w1 from hw1 ▸ (Below.refl w.heap.size w).alloc (Nat.le_refl _) _)
  have HC1 := Lib.hid (count_any w.heap.size 48 from' ks A m c l w1 HT1.out HL.out (by omega) (by omega) HG.out (fun w' ha => rows_keep HR.out HB1.out (Nat.le_refl _) ha))
  have HMK := Lib.hid hmk
  clear hf hr hl hg hw1 hmk hi0 hz0 hz1 hz2
  go_enter Try.func5, Try.ntmps5
  go_wp2_with fail
  refine (HF.out _).mono ?_
  rintro e w' ⟨rfl, rfl⟩
  go_wp2_with fail
  rw [HW1.out]
  refine HC1.out.mono ?_
  rintro e w2 ⟨h, rfl, hh, hb2, ha2⟩
  have HB2 := Lib.hid (ha2.from HB1.out (Nat.le_refl _) (Nat.le_refl _))
  have HK2 := Lib.hid hb2
  have hne : ((m : Int) != (m : Int)) = false := by simp
  have hmk2 := HMK.out w2
  have hba : Below w2.heap.size w2 (w2.alloc (.cells (zeros m (.int .i64 0)) 3)) := (Below.refl w2.heap.size w2).alloc (Nat.le_refl _) _
  have HB3 := Lib.hid (HB2.out.trans (hba.mono HB2.out.size))
  have HK3 := Lib.hid (HK2.out.alloc (.cells (zeros m (.int .i64 0)) 3))
  have HV3 := Lib.hid (show Blk (w2.alloc (.cells (zeros m (.int .i64 0)) 3)) w2.heap.size 3 (tabI m (cnt from' l m 0)) from by
    have := Blk.new w2 3 (zeros m (.int .i64 0))
    rw [tabI_zero] at this ⊢
    exact this)
  have HHL := Lib.hid (show h < w2.heap.size from hb2.lt)
  have HWL := Lib.hid (show w.heap.size ≤ w2.heap.size from HB2.out.size)
  clear hh hb2 ha2 hba
  go_wp2_with fail
  clear hmk2
  go_loopw [10, 11] (fun i k wr => ∃ q : Nat, i = .int .i64 q ∧ q ≤ (ks).toNat ∧ Below w.heap.size w wr ∧ Blk wr h 3 (tabI m (cnt from' l m (ks).toNat)) ∧ Blk wr w2.heap.size 3 (tabI m (cnt from' l m q))) (fun i _ _ => (ks).toNat - (intOf i).toNat)
  case atStart => exact ⟨0, rfl, by omega, HB3.out, HK3.out, HV3.out⟩
  case round =>
    obtain ⟨q, rfl, hq, hbw, hbk, hbl⟩ := hrel
    have KW := Lib.hid hbw
    have KK := Lib.hid hbk
    have KB := Lib.hid hbl
    clear hbw hbk hbl
    by_cases hqk : (q : Int) < ks
    · have t1 : decide ((q : Int) < ks) = true := decide_eq_true hqk
      have HPK := Lib.hid (show ∀ key, Calls Try.prog 13 #[.int .u64 key, .slice A m c] wr (fun e w' => e = .returned (.int .i64 (plc (pk key l m))) ∧ Below wr.heap.size wr w') from fun key => strB.pick_any key A m c l wr HL.out (by omega) HG.out (Row2.more (HR.out.below KW.out) KW.out.size))
      go_wp2_with fail
      refine (HPK.out _).mono ?_
      rintro e w3 ⟨rfl, hb3⟩
      have HW3 := Lib.hid (KW.out.trans (hb3.mono KW.out.size))
      have HK3 := Lib.hid (KK.out.below hb3 KK.out.lt)
      have HB3 := Lib.hid (KB.out.below hb3 KB.out.lt)
      clear hb3
      rw [show IntKind.u64.wrap (from' + (q : Int)) = kz from' q from rfl]
      have hpl := pk_lt (kz from' q) l m
      cases hm : pk (kz from' q) l m with
      | none =>
        have HX := Lib.hid (cnt_none hm)
        clear hm hpl
        rw [show plc none = -1 from rfl]
        go_wp2_with fail
        go_roundw
        case rel => exact ⟨q + 1, by go_num, by omega, HW3.out, HK3.out, by rw [← HX.out]; exact HB3.out⟩
        case measure => simp [intOf]; omega
      | some j =>
        have hj := (hpl j hm).1
        have hcb := cnt_bd from' l m q j
        have HX := Lib.hid (cnt_some hm hj)
        have t2 : decide ((0 : Int) ≤ j) = true := decide_eq_true (by omega)
        have d0 : w3.cell? ⟨w2.heap.size, j, none⟩ = some (.int .i64 (cnt from' l m q j)) := by rw [HB3.out.cell j]; exact tabI_get m _ j hj
        have f0 : w3.frozen? ⟨w2.heap.size, j, none⟩ = false := HB3.out.frozen j
        have HB4 := Lib.hid (HB3.out.set_ j (.int .i64 (cnt from' l m q j + 1)))
        have HK4 := Lib.hid (HK3.out.far (show h ≠ (⟨w2.heap.size, j, none⟩ : Addr).block by have := HHL.out; simp; omega) (.int .i64 (cnt from' l m q j + 1)))
        have HW4 := Lib.hid (HW3.out.setCell (p := ⟨w2.heap.size, j, none⟩) HWL.out (.int .i64 (cnt from' l m q j + 1)))
        have j0 : (0 : Int) ≤ j := by omega
        have j1 : (j : Int) < m := by omega
        have HX2 := Lib.hid (HX.out (cnt from' l m q j + 1) rfl)
        clear hm hpl HX
        generalize cnt from' l m q j = z at *
        rw [show plc (some j) = (j : Int) from rfl]
        go_wp2_with fail
        clear d0 f0
        go_roundw
        case rel => exact ⟨q + 1, by go_num, by omega, HW4.out, HK4.out, by rw [← HX2.out]; exact HB4.out⟩
        case measure => simp [intOf]; omega
    · have t1 : decide ((q : Int) < ks) = false := decide_eq_false hqk
      have hqk2 : q = (ks).toNat := by omega
      have KV := Lib.hid (hqk2 ▸ KB.out)
      clear hqk2 KB
      generalize cnt from' l m (ks).toNat = f at *
      go_wp2_with fail
      go_loopw [12] (fun i wz => ∃ p : Nat, i = .int .i64 p ∧ p ≤ m ∧ Below wr.heap.size wr wz) (fun i _ => m - (intOf i).toNat)
      case atStart => exact ⟨0, rfl, by omega, Below.refl _ _⟩
      case round =>
        obtain ⟨p, rfl, hp, hbz⟩ := hrel
        have HBZ := Lib.hid hbz
        clear hbz
        by_cases hpm : p < m
        · have t2 : decide ((p : Int) < m) = true := decide_eq_true (by omega)
          have t2b : decide (p < m) = true := decide_eq_true hpm
          have k1 := KK.out.below HBZ.out KK.out.lt
          have k2 := KV.out.below HBZ.out KV.out.lt
          have d1 : wr.cell? ⟨h, p, none⟩ = some (.int .i64 (f p)) := by rw [k1.cell p]; exact tabI_get m f p hpm
          have d2 : wr.cell? ⟨w2.heap.size, p, none⟩ = some (.int .i64 (f p)) := by rw [k2.cell p]; exact tabI_get m f p hpm
          have p0 : (0 : Int) ≤ p := by omega
          have p1 : (p : Int) < m := by omega
          have hfn : (f p != f p) = false := by simp
          clear k1 k2
          generalize f p = z at *
          go_wp2_with fail
          go_quiet (fail)
          clear d1 d2
          go_wp2_with fail
          go_roundw
          case rel => exact ⟨p + 1, by go_num, by omega, below_drewN HBZ.out _⟩
          case measure => simp [intOf]; omega
        · have t2 : decide ((p : Int) < m) = false := decide_eq_false (by omega)
          have t2b : decide (p < m) = false := decide_eq_false hpm
          have HAW := Lib.hid (awake_any wr)
          have HBX := Lib.hid (KW.out.trans (HBZ.out.mono KW.out.size))
          go_wp2_with fail
          refine HAW.out.mono ?_
          rintro e wq ⟨rfl, hbq⟩
          have HZ := Lib.hid (HBX.out.trans (hbq.mono HBX.out.size))
          clear hbq
          go_wp2_with fail
          go_ret
          exact ⟨rfl, HZ.out⟩
end Go.Proofs.Ytanijccpbleekaa.strI
