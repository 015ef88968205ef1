/- Layer 36: the law's few records. -/
import Derived.Test.YtmchedjeohhpcaaPcapN
namespace Go.Proofs.Ytmchedjeohhpcaa.pcapQ
open Go.ChangeShapes Go.WideShapes Go.ChangeAt Go.RowKit
open Go.Proofs.Ytmchedjeohhpcaa.base Go.Proofs.Ytmchedjeohhpcaa.pcapA Go.Proofs.Ytmchedjeohhpcaa.pcapB Go.Proofs.Ytmchedjeohhpcaa.pcapC Go.Proofs.Ytmchedjeohhpcaa.pcapD Go.Proofs.Ytmchedjeohhpcaa.pcapE Go.Proofs.Ytmchedjeohhpcaa.pcapF Go.Proofs.Ytmchedjeohhpcaa.pcapG Go.Proofs.Ytmchedjeohhpcaa.pcapI Go.Proofs.Ytmchedjeohhpcaa.pcapJ Go.Proofs.Ytmchedjeohhpcaa.pcapK Go.Proofs.Ytmchedjeohhpcaa.pcapL Go.Proofs.Ytmchedjeohhpcaa.pcapM Go.Proofs.Ytmchedjeohhpcaa.pcapN
set_option linter.unusedVariables false

/-- A record that came in. -/
structure InR (w : World) (e : Rc) : Prop where
  sec : e.sec < 4294967296
  mic : e.mic < 4294967296
  sz : e.sz < 4294967296
  nc : e.n ≤ e.c
  cm : e.c ≤ 9223372036854775807
  none : e.A = none → e.c = 0
  row : Row w w.heap.size e.A (e.bs.map (.int .u8))
  len : e.bs.length = e.n
  byte : Byte e.bs
def clip (e : Rc) : Rc := if 200 < e.n then ⟨e.sec, e.mic, e.sz, e.A, 200, e.c, e.bs.take 200⟩ else e
theorem clip_big {e : Rc} (h : 200 < e.n) : clip e = ⟨e.sec, e.mic, e.sz, e.A, 200, e.c, e.bs.take 200⟩ := if_pos h
theorem clip_small {e : Rc} (h : ¬ 200 < e.n) : clip e = e := if_neg h
theorem clip_le (e : Rc) : (clip e).n ≤ 200 := by
  unfold clip
  split
  · exact Nat.le_refl _
  · omega
theorem InR.clip {w : World} {e : Rc} (h : InR w e) : InR w (clip e) := by
  by_cases hb : 200 < e.n
  · rw [clip_big hb]
    refine ⟨h.sec, h.mic, h.sz, ?_, h.cm, h.none, ?_, ?_, h.byte.take _⟩
    · have := h.nc
      show 200 ≤ e.c
      omega
    · have := h.row.take 200
      rw [← List.map_take] at this
      exact this
    · show (e.bs.take 200).length = 200
      rw [List.length_take, h.len]
      omega
  · rw [clip_small hb]
    exact h
theorem InR.has {w : World} {e : Rc} (h : InR w e) (hn : e.n ≤ 200) : Has w e := ⟨h.row, h.len, h.none, by omega⟩
theorem InR.ok {w : World} {e : Rc} (h : InR w e) (hn : e.n ≤ 200) : e.ok := ⟨h.sec, h.mic, h.sz, by omega⟩
def fewL (l : List Rc) : List Rc := (l.take 20).map clip
theorem fewL_len (l : List Rc) : (fewL l).length = min 20 l.length := by simp [fewL]
theorem fewL_take (l : List Rc) (j : Nat) (h : j < (fewL l).length) : ∃ hj : j < l.length, (fewL l).take (j + 1) = (fewL l).take j ++ [clip l[j]] := by
  have h2 := fewL_len l
  refine ⟨by omega, ?_⟩
  rw [List.take_succ_eq_append_getElem h]
  congr 2
  simp [fewL]
theorem own_setT {w : World} {B e size : Nat} {v : Value} {n : Nat} {xs : List Value} (h : w.ownsRow B e size v n xs) {g t : Nat} {cs : Array Value} (hg : Blk w g t cs) (ht : t ≠ e) (i : Nat) (u : Value) : (w.setCell ⟨g, i, none⟩ u).ownsRow B e size v n xs :=
  own_farB h fun k hk => Below.heap_setCell w _ u k (own_neB ht h hg k hk)
theorem rd_of_row {w : World} {B : Nat} {A : Option Addr} {n c : Nat} {l : List Rc} (h : w.ownsRow B 38 4 (.slice A n c) n (flatR l)) (hn : n = l.length) : RdR w A l := by
  subst hn
  rcases Nat.eq_zero_or_pos l.length with h0 | h0
  · exact .inl (List.eq_nil_of_length_eq_zero h0)
  · rcases h.2 with ⟨hv, h1⟩ | ⟨g, cap, cur, hv, hb, hg, h1, h2, h3, h4⟩
    · omega
    · injection hv with hA hn hc
      subst hA hc
      refine .inr ⟨g, 0, rfl, (Array.getElem?_eq_some_iff.1 hg).1, fun j hj i hi => ?_⟩
      rw [Nat.zero_add, h.cellAt (j * 4 + i) (by omega)]
      exact flatR_get l j hj i hi
theorem own_cap {w : World} {B e s : Nat} {A : Option Addr} {n c : Nat} {xs : List Value} (h : w.ownsRow B e s (.slice A n c) n xs) : n ≤ c ∧ c ≤ 9223372036854775807 := by
  rcases h.2 with ⟨hv, h0⟩ | ⟨g, cap, cur, hv, hb, hg, hnc, hm, hsz, htake⟩
  · injection hv with h1 h2 h3
    omega
  · injection hv with h1 h2 h3
    subst h3
    unfold maxLen at hm
    omega
def FewPost (big : Bool) (sn link : Nat) (m : List Rc) (w : World) (o : Ending) (w' : World) : Prop :=
  ∃ A c, o = .returned (.agg #[.bool big, .int .u32 (sn : Int), .int .u32 (link : Int), .slice A m.length c]) ∧ w'.ownsRow w.heap.size 38 4 (.slice A m.length c) m.length (flatR m) ∧ Below w.heap.size w w'
set_option maxHeartbeats 4000000 in
set_option maxRecDepth 100000 in
theorem few_any (big : Bool) (sn link : Nat) (A : Option Addr) (c : Nat) (l : List Rc) (w : World) (hr : RdR w A l) (hin : ∀ e ∈ l, InR w e) (hc1 : l.length ≤ c) (hc2 : c ≤ 9223372036854775807) :
    Calls Try.prog 6 #[.agg #[.bool big, .int .u32 (sn : Int), .int .u32 (link : Int), .slice A l.length c]] w (FewPost big sn link (fewL l) w) := by
  obtain ⟨i0, hi0, hz0, hz1, hz2⟩ := info_parts info_rec
  have HI0 := Lib.hid hi0
  have HZ0 := Lib.hid hz0
  have HZ1 := Lib.hid hz1
  have HZ2 := Lib.hid hz2
  clear hi0 hz0 hz1 hz2
  have HR := Lib.hid hr
  have HIN := Lib.hid hin
  obtain ⟨n, hn⟩ : ∃ n, n = l.length := ⟨_, rfl⟩
  have HN := Lib.hid hn
  obtain ⟨m, hm⟩ : ∃ m, m = fewL l := ⟨_, rfl⟩
  have HM := Lib.hid hm
  have hml : m.length = min 20 n := by rw [hm, hn]; exact fewL_len l
  obtain ⟨q, hq⟩ : ∃ q, q = m.length := ⟨_, rfl⟩
  have HQ := Lib.hid hq
  have hq1 : q ≤ 20 := by omega
  have hq2 : q ≤ n := by omega
  have hq3 : q = 20 ∨ q = n := by omega
  have HQ3 := Lib.hid hq3
  rw [← hn] at hc1 ⊢
  rw [← hm]
  have K1 := (Blk.new w 25 #[.bool big, .int .u32 (sn : Int), .int .u32 (link : Int), .slice A n c]).alloc (.cells #[.bool false, .int .u32 0, .int .u32 0, .slice none 0 0] 25)
  have hz0 : (w.alloc (.cells #[.bool big, .int .u32 (sn : Int), .int .u32 (link : Int), .slice A n c] 25)).heap.size = w.heap.size + 1 := by simp
  have K2 := Blk.new (w.alloc (.cells #[.bool big, .int .u32 (sn : Int), .int .u32 (link : Int), .slice A n c] 25)) 25 #[.bool false, .int .u32 0, .int .u32 0, .slice none 0 0]
  rw [hz0] at K2
  have B0 : Below w.heap.size w ((w.alloc (.cells #[.bool big, .int .u32 (sn : Int), .int .u32 (link : Int), .slice A n c] 25)).alloc (.cells #[.bool false, .int .u32 0, .int .u32 0, .slice none 0 0] 25)) := ((Below.refl _ _).alloc (Nat.le_refl _) _).alloc (by simp) _
  obtain ⟨w0, hw0⟩ : ∃ w0, w0 = ((w.alloc (.cells #[.bool big, .int .u32 (sn : Int), .int .u32 (link : Int), .slice A n c] 25)).alloc (.cells #[.bool false, .int .u32 0, .int .u32 0, .slice none 0 0] 25)) := ⟨_, rfl⟩
  rw [← hw0] at K1 K2 B0
  have HK1 := Lib.hid K1
  have HK2 := Lib.hid K2
  have HB0 := Lib.hid B0
  clear hr hin hn hm hml hq hq3 K1 K2 B0 hw0 hz0
  go_enter Try.func6, Try.ntmps6
  go_wp2_with fail
  go_loopw [3, 4] (fun out i wr => ∃ (j : Nat), j ≤ q ∧ i = .int .i64 j ∧ Hid (wr.ownsRow w.heap.size 38 4 out j (flatR (m.take j))) ∧ Hid (Below w.heap.size w wr) ∧ Hid (Blk wr w.heap.size 25 #[.bool big, .int .u32 (sn : Int), .int .u32 (link : Int), .slice A n c]) ∧ Hid (Blk wr (w.heap.size + 1) 25 #[.bool false, .int .u32 0, .int .u32 0, .slice none 0 0])) (fun _ i _ => q - (intOf i).toNat)
  case atStart => exact ⟨0, by omega, rfl, Lib.hid (World.ownsRow_nil _ _ _ _), Lib.hid (((Below.refl _ _).alloc (Nat.le_refl _) _).alloc (by simp) _), Lib.hid ((Blk.new _ _ _).alloc _), Lib.hid (by have := Blk.new (w.alloc (.cells #[.bool big, .int .u32 (sn : Int), .int .u32 (link : Int), .slice A n c] 25)) 25 #[.bool false, .int .u32 0, .int .u32 0, .slice none 0 0]; simpa using this)⟩
  case round =>
    obtain ⟨j, hj, rfl, HO, HB, HKA, HKB⟩ := hrel
    have f3 : wr.cell? ⟨w.heap.size, 3, none⟩ = some (.slice A n c) := HKA.out.cell 3
    by_cases hlt : j < q
    · have hjm : j < m.length := HQ.out ▸ hlt
      obtain ⟨hjl, hsn⟩ := fewL_take l j (HM.out ▸ hjm)
      have HSN := Lib.hid hsn
      obtain ⟨b, off, hA, hbl, hC⟩ := (HR.out.below HB.out).at_ j hjl
      subst hA
      have HI := Lib.hid (HIN.out l[j] (List.getElem_mem hjl))
      obtain ⟨e, he⟩ : ∃ e, e = l[j] := ⟨_, rfl⟩
      rw [← he] at hC HSN HI
      have d0 : wr.cell? ⟨b, off + j * 4, none⟩ = some (.int .u32 (e.sec : Int)) := hC 0 (by omega)
      have d1 : wr.cell? ⟨b, off + j * 4 + 1, none⟩ = some (.int .u32 (e.mic : Int)) := hC 1 (by omega)
      have d2 : wr.cell? ⟨b, off + j * 4 + 2, none⟩ = some (.int .u32 (e.sz : Int)) := hC 2 (by omega)
      have d3 : wr.cell? ⟨b, off + j * 4 + 3, none⟩ = some (.slice e.A e.n e.c) := hC 3 (by omega)
      have t1 : decide ((j : Int) < n) = true := decide_eq_true (by omega)
      have t1' : decide (j < n) = true := decide_eq_true (by omega)
      have t2 : decide ((j : Int) < 20) = true := decide_eq_true (by omega)
      have j0 : (0 : Int) ≤ j := by omega
      have j1 : (j : Int) < n := by omega
      have hen : e.n ≤ 9223372036854775807 := Nat.le_trans HI.out.nc HI.out.cm
      clear hC he hsn hjl hjm
      by_cases hbig : 200 < e.n
      · have t3 : decide ((200 : Int) < e.n) = true := decide_eq_true (by omega)
        have hc200 : 200 ≤ e.c := by have := HI.out.nc; omega
        obtain ⟨ba, oa, hAe, _⟩ := HI.out.row.at_ (by intro h; rw [List.map_eq_nil_iff] at h; have := HI.out.len; rw [h] at this; simp at this; omega)
        have HS := slice_to ba oa e.n e.c 200 hc200 (by omega)
        have r1 : ∀ W : World, (Instr.slice 27 (.slice e.A e.n e.c) none (some (.int .i64 200)) none).run Try.prog W = .ok (.slice e.A 200 e.c) W := by rw [hAe]; exact HS.1
        have r2 : ∀ W : World, (Instr.sliceAt 27 (.slice e.A e.n e.c) none (some (.int .i64 200)) none).run Try.prog W = .ok (.slice e.A 200 e.c) W := by rw [hAe]; exact HS.2
        rw [clip_big hbig] at HSN
        clear hAe HS
        have hz1 : (wr.alloc (.cells #[.int .u32 (e.sec : Int), .int .u32 (e.mic : Int), .int .u32 (e.sz : Int), .slice e.A 200 e.c] 38)).heap.size = wr.heap.size + 1 := by simp
        have LIT := Blk.new (wr.alloc (.cells #[.int .u32 (e.sec : Int), .int .u32 (e.mic : Int), .int .u32 (e.sz : Int), .slice e.A 200 e.c] 38)) 38 #[.int .u32 (e.sec : Int), .int .u32 (e.mic : Int), .int .u32 (e.sz : Int), .slice e.A 200 e.c]
        rw [hz1] at LIT
        have hnews : ∀ (i : Nat) (u : Value), [Value.int .u32 (e.sec : Int), .int .u32 (e.mic : Int), .int .u32 (e.sz : Int), .slice e.A 200 e.c][i]? = some u → ((wr.alloc (.cells #[.int .u32 (e.sec : Int), .int .u32 (e.mic : Int), .int .u32 (e.sz : Int), .slice e.A 200 e.c] 38)).alloc (.cells #[.int .u32 (e.sec : Int), .int .u32 (e.mic : Int), .int .u32 (e.sz : Int), .slice e.A 200 e.c] 38)).cell? ((⟨wr.heap.size + 1, 0, none⟩ : Addr).add i) = some u := by
          intro i u hu
          rw [Addr.add_lit, Nat.zero_add, LIT.cell i, ← hu, ← Array.getElem?_toList]
        have HNEWS := Lib.hid hnews
        have HOX := Lib.hid ((HO.out.alloc (.cells #[.int .u32 (e.sec : Int), .int .u32 (e.mic : Int), .int .u32 (e.sz : Int), .slice e.A 200 e.c] 38)).alloc (.cells #[.int .u32 (e.sec : Int), .int .u32 (e.mic : Int), .int .u32 (e.sz : Int), .slice e.A 200 e.c] 38))
        have HBX := Lib.hid ((HB.out.alloc HB.out.size (.cells #[.int .u32 (e.sec : Int), .int .u32 (e.mic : Int), .int .u32 (e.sz : Int), .slice e.A 200 e.c] 38)).alloc (by have := HB.out.size; simp; omega) (.cells #[.int .u32 (e.sec : Int), .int .u32 (e.mic : Int), .int .u32 (e.sz : Int), .slice e.A 200 e.c] 38))
        have HKAX := Lib.hid ((HKA.out.alloc (.cells #[.int .u32 (e.sec : Int), .int .u32 (e.mic : Int), .int .u32 (e.sz : Int), .slice e.A 200 e.c] 38)).alloc (.cells #[.int .u32 (e.sec : Int), .int .u32 (e.mic : Int), .int .u32 (e.sz : Int), .slice e.A 200 e.c] 38))
        have HKBX := Lib.hid ((HKB.out.alloc (.cells #[.int .u32 (e.sec : Int), .int .u32 (e.mic : Int), .int .u32 (e.sz : Int), .slice e.A 200 e.c] 38)).alloc (.cells #[.int .u32 (e.sec : Int), .int .u32 (e.mic : Int), .int .u32 (e.sz : Int), .slice e.A 200 e.c] 38))
        have y1 : j + 1 ≤ maxLen := by unfold maxLen; omega
        have y2 : (j + 1) * 40 ≤ 140737488355328 := by omega
        have Y1 := Lib.hid y1
        have Y2 := Lib.hid y2
        clear hnews LIT hz1 y1 y2
        go_wp2_with (at_builtin; refine wpList_append_own _ rfl (.tmp 30) (.tmp 32) _ rfl w.heap.size 38 i0 _ 4 40 Try.underlying23 HI0.out HZ0.out HZ1.out HZ2.out rfl (by omega) _ j _ rfl HOX.out ⟨wr.heap.size + 1, 0, none⟩ 1 1 [.int .u32 (e.sec : Int), .int .u32 (e.mic : Int), .int .u32 (e.sz : Int), .slice e.A 200 e.c] rfl rfl HNEWS.out (by simp [Value.oneCell']) Y1.out Y2.out HBX.out.size ?_; intro va wa owna ga _; have HOa := Lib.hid owna; have HBa := Lib.hid (HBX.out.grown ga HBX.out.size (fun k hk => (HOX.out.lt k hk).1)); have HKAa := Lib.hid (HKAX.out.grown ga (fun h => own_neB (by decide) HOX.out HKAX.out w.heap.size h.symm rfl)); have HKBa := Lib.hid (HKBX.out.grown ga (fun h => own_neB (by decide) HOX.out HKBX.out (w.heap.size + 1) h.symm rfl)); clear owna ga)
        go_roundw
        case rel =>
          refine ⟨j + 1, by omega, by go_num, ?_, HBa, HKAa, HKBa⟩
          rw [HM.out, HSN.out, flatR_snoc, ← HM.out]
          exact HOa
        case measure => simp [intOf]; omega
      · have t3 : decide ((200 : Int) < e.n) = false := decide_eq_false (by omega)
        rw [clip_small hbig] at HSN
        have hz1 : (wr.alloc (.cells #[.int .u32 (e.sec : Int), .int .u32 (e.mic : Int), .int .u32 (e.sz : Int), .slice e.A e.n e.c] 38)).heap.size = wr.heap.size + 1 := by simp
        have LIT := Blk.new (wr.alloc (.cells #[.int .u32 (e.sec : Int), .int .u32 (e.mic : Int), .int .u32 (e.sz : Int), .slice e.A e.n e.c] 38)) 38 #[.int .u32 (e.sec : Int), .int .u32 (e.mic : Int), .int .u32 (e.sz : Int), .slice e.A e.n e.c]
        rw [hz1] at LIT
        have hnews : ∀ (i : Nat) (u : Value), [Value.int .u32 (e.sec : Int), .int .u32 (e.mic : Int), .int .u32 (e.sz : Int), .slice e.A e.n e.c][i]? = some u → ((wr.alloc (.cells #[.int .u32 (e.sec : Int), .int .u32 (e.mic : Int), .int .u32 (e.sz : Int), .slice e.A e.n e.c] 38)).alloc (.cells #[.int .u32 (e.sec : Int), .int .u32 (e.mic : Int), .int .u32 (e.sz : Int), .slice e.A e.n e.c] 38)).cell? ((⟨wr.heap.size + 1, 0, none⟩ : Addr).add i) = some u := by
          intro i u hu
          rw [Addr.add_lit, Nat.zero_add, LIT.cell i, ← hu, ← Array.getElem?_toList]
        have HNEWS := Lib.hid hnews
        have HOX := Lib.hid ((HO.out.alloc (.cells #[.int .u32 (e.sec : Int), .int .u32 (e.mic : Int), .int .u32 (e.sz : Int), .slice e.A e.n e.c] 38)).alloc (.cells #[.int .u32 (e.sec : Int), .int .u32 (e.mic : Int), .int .u32 (e.sz : Int), .slice e.A e.n e.c] 38))
        have HBX := Lib.hid ((HB.out.alloc HB.out.size (.cells #[.int .u32 (e.sec : Int), .int .u32 (e.mic : Int), .int .u32 (e.sz : Int), .slice e.A e.n e.c] 38)).alloc (by have := HB.out.size; simp; omega) (.cells #[.int .u32 (e.sec : Int), .int .u32 (e.mic : Int), .int .u32 (e.sz : Int), .slice e.A e.n e.c] 38))
        have HKAX := Lib.hid ((HKA.out.alloc (.cells #[.int .u32 (e.sec : Int), .int .u32 (e.mic : Int), .int .u32 (e.sz : Int), .slice e.A e.n e.c] 38)).alloc (.cells #[.int .u32 (e.sec : Int), .int .u32 (e.mic : Int), .int .u32 (e.sz : Int), .slice e.A e.n e.c] 38))
        have HKBX := Lib.hid ((HKB.out.alloc (.cells #[.int .u32 (e.sec : Int), .int .u32 (e.mic : Int), .int .u32 (e.sz : Int), .slice e.A e.n e.c] 38)).alloc (.cells #[.int .u32 (e.sec : Int), .int .u32 (e.mic : Int), .int .u32 (e.sz : Int), .slice e.A e.n e.c] 38))
        have y1 : j + 1 ≤ maxLen := by unfold maxLen; omega
        have y2 : (j + 1) * 40 ≤ 140737488355328 := by omega
        have Y1 := Lib.hid y1
        have Y2 := Lib.hid y2
        clear hnews LIT hz1 y1 y2
        go_wp2_with (at_builtin; refine wpList_append_own _ rfl (.tmp 30) (.tmp 32) _ rfl w.heap.size 38 i0 _ 4 40 Try.underlying23 HI0.out HZ0.out HZ1.out HZ2.out rfl (by omega) _ j _ rfl HOX.out ⟨wr.heap.size + 1, 0, none⟩ 1 1 [.int .u32 (e.sec : Int), .int .u32 (e.mic : Int), .int .u32 (e.sz : Int), .slice e.A e.n e.c] rfl rfl HNEWS.out (by simp [Value.oneCell']) Y1.out Y2.out HBX.out.size ?_; intro va wa owna ga _; have HOa := Lib.hid owna; have HBa := Lib.hid (HBX.out.grown ga HBX.out.size (fun k hk => (HOX.out.lt k hk).1)); have HKAa := Lib.hid (HKAX.out.grown ga (fun h => own_neB (by decide) HOX.out HKAX.out w.heap.size h.symm rfl)); have HKBa := Lib.hid (HKBX.out.grown ga (fun h => own_neB (by decide) HOX.out HKBX.out (w.heap.size + 1) h.symm rfl)); clear owna ga)
        go_roundw
        case rel =>
          refine ⟨j + 1, by omega, by go_num, ?_, HBa, HKAa, HKBa⟩
          rw [HM.out, HSN.out, flatR_snoc, ← HM.out]
          exact HOa
        case measure => simp [intOf]; omega
    · obtain rfl : j = q := by omega
      have hz : m.take j = m := List.take_of_length_le (by rw [← HQ.out]; exact Nat.le_refl _)
      rw [hz] at HO
      obtain ⟨Ao, co, rfl⟩ := own_sliceN HO.out
      have kA := HKA.out
      have kB := HKB.out
      have f0 := kA.cell 0
      have f1 := kA.cell 1
      have f2 := kA.cell 2
      have g3 := kA.frozen 3
      have z0 := kB.cell 0
      have z1 := kB.cell 1
      have z2 := kB.cell 2
      have z3 := kB.cell 3
      have y0 := kB.frozen 0
      have y1 := kB.frozen 1
      have y2 := kB.frozen 2
      have y3 := kB.frozen 3
      have hne : w.heap.size ≠ w.heap.size + 1 := by omega
      have kA1 := kA.set_ 3 (.slice Ao j co)
      have kB1 := kB.far (p := ⟨w.heap.size, 3, none⟩) (show w.heap.size + 1 ≠ w.heap.size by omega) (.slice Ao j co)
      have o1 := own_setT HO.out kA (by decide) 3 (.slice Ao j co)
      have kB2 := kB1.set_ 0 (.bool big)
      have o2 := own_setT o1 kB1 (by decide) 0 (.bool big)
      have kB3 := kB2.set_ 1 (.int .u32 (sn : Int))
      have o3 := own_setT o2 kB2 (by decide) 1 (.int .u32 (sn : Int))
      have kB4 := kB3.set_ 2 (.int .u32 (link : Int))
      have o4 := own_setT o3 kB3 (by decide) 2 (.int .u32 (link : Int))
      have kB5 := kB4.set_ 3 (.slice Ao j co)
      have o5 := own_setT o4 kB4 (by decide) 3 (.slice Ao j co)
      have HKF := Lib.hid (show Blk (((((wr.setCell ⟨w.heap.size, 3, none⟩ (.slice Ao j co)).setCell ⟨w.heap.size + 1, 0, none⟩ (.bool big)).setCell ⟨w.heap.size + 1, 1, none⟩ (.int .u32 (sn : Int))).setCell ⟨w.heap.size + 1, 2, none⟩ (.int .u32 (link : Int))).setCell ⟨w.heap.size + 1, 3, none⟩ (.slice Ao j co)) (w.heap.size + 1) 25 #[.bool big, .int .u32 (sn : Int), .int .u32 (link : Int), .slice Ao j co] from kB5)
      have HOF := Lib.hid o5
      have HBF := Lib.hid (show Below w.heap.size w (((((wr.setCell ⟨w.heap.size, 3, none⟩ (.slice Ao j co)).setCell ⟨w.heap.size + 1, 0, none⟩ (.bool big)).setCell ⟨w.heap.size + 1, 1, none⟩ (.int .u32 (sn : Int))).setCell ⟨w.heap.size + 1, 2, none⟩ (.int .u32 (link : Int))).setCell ⟨w.heap.size + 1, 3, none⟩ (.slice Ao j co)) from ((((HB.out.setCell (show w.heap.size ≤ w.heap.size from Nat.le_refl _) _).setCell (show w.heap.size ≤ w.heap.size + 1 by omega) _).setCell (show w.heap.size ≤ w.heap.size + 1 by omega) _).setCell (show w.heap.size ≤ w.heap.size + 1 by omega) _).setCell (show w.heap.size ≤ w.heap.size + 1 by omega) _)
      clear kA kB kA1 kB1 kB2 kB3 kB4 kB5 o1 o2 o3 o4 o5 hz
      have t2 : j < n → decide ((j : Int) < 20) = false := fun h => decide_eq_false (by have := HQ3.out; omega)
      by_cases hjn : j < n
      · have t1 : decide ((j : Int) < n) = true := decide_eq_true (by omega)
        have t1' : decide (j < n) = true := decide_eq_true hjn
        have t2' := t2 hjn
        clear t2
        go_wp2_with fail
        refine bodyPost_ret (results_cell_row rfl _ _ (w.heap.size + 1) 25 #[.bool big, .int .u32 (sn : Int), .int .u32 (link : Int), .slice Ao j co] (0, 0) _ rfl HKF.out Try.underlying25 rfl size_file) rfl ?_
        exact ⟨Ao, co, by rw [← HQ.out], by rw [← HQ.out]; exact HOF.out, HBF.out⟩
      · have t1 : decide ((j : Int) < n) = false := decide_eq_false (by omega)
        have t1' : decide (j < n) = false := decide_eq_false hjn
        clear t2
        go_wp2_with fail
        refine bodyPost_ret (results_cell_row rfl _ _ (w.heap.size + 1) 25 #[.bool big, .int .u32 (sn : Int), .int .u32 (link : Int), .slice Ao j co] (0, 0) _ rfl HKF.out Try.underlying25 rfl size_file) rfl ?_
        exact ⟨Ao, co, by rw [← HQ.out], by rw [← HQ.out]; exact HOF.out, HBF.out⟩
end Go.Proofs.Ytmchedjeohhpcaa.pcapQ
