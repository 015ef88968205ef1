/- Layer 44: the law's bytes of ops. -/
import Derived.Test.YtmlicmcphecakaaSnD
import Derived.Test.YtmlicmcphecakaaSnF
import Derived.Deep.RegionHeld3
namespace Go.Proofs.Ytmlicmcphecakaa.snG
open Go.ChangeShapes Go.WideShapes Go.ChangeAt Go.RowKit
open Go.Proofs.Ytmlicmcphecakaa.base Go.Proofs.Ytmlicmcphecakaa.octA Go.Proofs.Ytmlicmcphecakaa.octB Go.Proofs.Ytmlicmcphecakaa.octK Go.Proofs.Ytmlicmcphecakaa.net Go.Proofs.Ytmlicmcphecakaa.rdrA Go.Proofs.Ytmlicmcphecakaa.snA Go.Proofs.Ytmlicmcphecakaa.snB Go.Proofs.Ytmlicmcphecakaa.snC Go.Proofs.Ytmlicmcphecakaa.snD Go.Proofs.Ytmlicmcphecakaa.snE Go.Proofs.Ytmlicmcphecakaa.snF Go.Proofs.Ytmlicmcphecakaa.snK
set_option linter.unusedVariables false

theorem one2 (a b : Int) : ∀ u ∈ [Value.int .u8 a, .int .u8 b], u.oneCell' = true := fun u hu => by
  simp at hu
  rcases hu with rfl | rfl <;> rfl
theorem one1 (a : Int) : ∀ u ∈ [Value.int .u8 a], u.oneCell' = true := fun u hu => by
  simp at hu
  rcases hu with rfl
  rfl
theorem pb1 (n : Int) : pb n 1 1 = [n % 256] := by show [byteZ n 0] = _; rw [by0]
theorem opB_parts (o : Ob) : opB o = [o.kind % 256, upZ o.up] ++ (pb o.host 4 4 ++ (pb o.n 4 4 ++ (pb (o.bs.length : Int) 4 4 ++ (o.bs ++ ([(o.nm.size : Int) % 256] ++ strZ o.nm))))) := by
  have e1 : upZ o.up % 256 = upZ o.up := by unfold upZ; split <;> rfl
  unfold opB allb
  simp only [List.flatMap_cons, List.flatMap_nil, List.append_nil, pb1, List.append_assoc, e1]
  rfl
/-- An op's block stays, what is old stays, and so does what is not bytes. -/
structure SQ (w : World) (s0 q : Nat) (cs : Array Value) (V : World) : Prop where
  q : Blk V q 27 cs
  bel : Below s0 w V
  keep : KT w V
  size : s0 ≤ V.heap.size
theorem row_map1 {w : World} {base : Nat} {v : Value} {m k : Nat} {xs : List Value} {ys : List Int} (h : w.ownsRow base 5 1 v m xs) (e : m = k) : w.ownsRow base 5 1 v k xs := e ▸ h
set_option maxHeartbeats 16000000 in
set_option maxRecDepth 100000 in
theorem lbytes_any (A : Option Addr) (n c : Nat) (l : List Ob) (w : World) (h : OpsB w A l) (hn : n = l.length) (hl : l.length ≤ 40) (hc : n ≤ c) (hc2 : c ≤ 9223372036854775807) (hrt : ∀ o ∈ l, o.right) :
    Calls Try.prog 11 #[.slice A n c] w fun o w' => Below w.heap.size w w' ∧ ∃ v, o = .returned v ∧ w'.ownsRow w.heap.size 5 1 v (allO l).length ((allO l).map (.int .u8)) := by
  obtain ⟨i0, hi0, hz0, hz1, hz2⟩ := info_parts info_u8
  have HI0 := Lib.hid hi0
  have HZ0 := Lib.hid hz0
  have HZ1 := Lib.hid hz1
  have HZ2 := Lib.hid hz2
  have HI := Lib.hid h
  have HN := Lib.hid hn
  have HL := Lib.hid hl
  have HRT := Lib.hid hrt
  have h300 := Lib.hid (fun o ho => (h.els o ho).l300)
  have hn40 : n ≤ 40 := by omega
  obtain ⟨s0, hs0⟩ : ∃ s, s = w.heap.size := ⟨_, rfl⟩
  have HS0 := Lib.hid hs0
  obtain ⟨w1, hw1⟩ : ∃ w1, w1 = w.alloc (.cells #[.int .u8 68, .int .u8 83, .int .u8 84, .int .u8 49] 5 (4, 5)) := ⟨_, rfl⟩
  have hcv : (convert 25 25 (.slice (some ⟨w.heap.size, 0, none⟩) 4 4)).run Try.prog (w.alloc (.cells #[.int .u8 68, .int .u8 83, .int .u8 84, .int .u8 49] 5)) = .ok (.slice (some ⟨w.heap.size, 0, none⟩) 4 4) (w.alloc (.cells #[.int .u8 68, .int .u8 83, .int .u8 84, .int .u8 49] 5 (4, 5))) := Lib.run_convert_bytes_const w 25 5 #[.int .u8 68, .int .u8 83, .int .u8 84, .int .u8 49] 4 4 Try.underlying25 Try.underlying5
  have E1 := Lib.hid hw1
  have KO1 := Lib.hid (show ∀ j u, (([68, 83, 84, 49] : List Int).map (Value.int .u8))[j]? = some u → w1.cell? ⟨s0, j, none⟩ = some u from fun j u hu => by
    rw [hw1, hs0, World.cell?_alloc_mark]
    simpa using hu)
  have KB1 := Lib.hid (show Below s0 w w1 from by rw [hw1, hs0]; exact (Below.refl _ _).alloc (Nat.le_refl _) _)
  have KT1 := Lib.hid (show KT w w1 from by rw [hw1]; exact (KT.refl w).below ((Below.refl _ _).alloc (Nat.le_refl _) _))
  have HPU := Lib.hid (four_c s0 4 (([68, 83, 84, 49] : List Int).map (Value.int .u8)) (n : Int) s0 s0 w w1 rfl KO1.out (by rw [hs0]; rw [hw1]; simp) (by omega) KB1.out (Nat.le_refl _) (by omega) (by omega))
  have e0 : allK l 0 = [68, 83, 84, 49] ++ pb (n : Int) 4 4 := by unfold allK; rw [List.take_zero, ← hn]; simp [opsB]
  have HE0 := Lib.hid e0
  rw [← hs0]
  clear h hn hl hs0 hw1 e0 hrt hi0 hz0 hz1 hz2
  go_enter Try.func11, Try.ntmps11
  go_wp2_with fail
  rw [← HS0.out, ← E1.out]
  refine HPU.out.mono ?_
  rintro o w2 ⟨v2, rfl, ho2, hb2, hs2, hk2⟩
  have HO2 := Lib.hid (show w2.ownsRow s0 5 1 v2 (allK l 0).length ((allK l 0).map (.int .u8)) from by
    rw [HE0.out, List.map_append, List.length_append, pb_len]
    exact ho2)
  have HB2 := Lib.hid hb2
  have HT2 := Lib.hid (KT1.out.trans hk2)
  obtain ⟨A2, c2, hv2⟩ := own_slice ho2
  subst hv2
  have HS2 := Lib.hid hs2
  clear ho2 hb2 hs2 hk2
  go_wp2_with fail
  go_loopw [3, 4] (fun v i wr => ∃ k : Nat, i = .int .i64 k ∧ k ≤ n ∧ Hid (wr.ownsRow s0 5 1 v (allK l k).length ((allK l k).map (.int .u8))) ∧ Hid (Below s0 w wr) ∧ Hid (KT w wr) ∧ Hid (s0 ≤ wr.heap.size)) (fun _ i _ => n - (intOf i).toNat)
  case atStart => exact ⟨0, rfl, by omega, HO2, HB2, HT2, HS2⟩
  case round =>
    obtain ⟨k, rfl, hk, HO, HB, HT, HS⟩ := hrel
    obtain ⟨Ar, cr, hvr⟩ := own_slice HO.out
    subst hvr
    by_cases hkn : k < n
    · have t1 : decide ((k : Int) < n) = true := decide_eq_true (by omega)
      have t1n : decide (k < n) = true := decide_eq_true hkn
      have hkl : k < l.length := by have := HN.out; omega
      obtain ⟨b, cur, hA, hblk, hcur⟩ := HI.out.at_ k hkl
      subst hA
      have KBL := Lib.hid (HT.out b _ cur (by decide) hblk)
      have HNX := Lib.hid (allK_next l hkl)
      have HOI := Lib.hid (HI.out.els l[k] (List.getElem_mem hkl))
      have HOR := Lib.hid (HRT.out l[k] (List.getElem_mem hkl))
      have hml : (allK l k).length ≤ 40000 := by rw [allK_len]; have := take_le l k HL.out h300.out (fun o ho => HRT.out o (List.mem_of_mem_take ho)); omega
      obtain ⟨e, he⟩ : ∃ e, e = l[k] := ⟨_, rfl⟩
      rw [← he] at hcur HNX HOI HOR
      have hce : ∀ i, i < 6 → wr.cell? ⟨b, k * 6 + i, none⟩ = e.cells[i]? := fun i hi => by rw [KBL.out.cell, hcur i hi]
      have d0 : wr.cell? ⟨b, k * 6, none⟩ = some (.int .i64 e.kind) := hce 0 (by omega)
      have d1 : wr.cell? ⟨b, k * 6 + 1, none⟩ = some (.slice e.A e.bs.length e.c) := hce 1 (by omega)
      have d2 : wr.cell? ⟨b, k * 6 + 2, none⟩ = some (.string e.nm) := hce 2 (by omega)
      have d3 : wr.cell? ⟨b, k * 6 + 3, none⟩ = some (.int .i64 e.host) := hce 3 (by omega)
      have d4 : wr.cell? ⟨b, k * 6 + 4, none⟩ = some (.int .i64 e.n) := hce 4 (by omega)
      have d5 : wr.cell? ⟨b, k * 6 + 5, none⟩ = some (.bool e.up) := hce 5 (by omega)
      have j0 : (0 : Int) ≤ k := by omega
      have j1 : (k : Int) < n := by omega
      obtain ⟨g0, g1, g2, g3, g4, g5, g6, g7⟩ := HOR.out
      have HOP := Lib.hid (show opB e = [e.kind, upZ e.up] ++ (pb e.host 4 4 ++ (pb e.n 4 4 ++ (pb (e.bs.length : Int) 4 4 ++ (e.bs ++ ([(e.nm.size : Int)] ++ strZ e.nm))))) from by
        rw [opB_parts, show e.kind % 256 = e.kind from Int.emod_eq_of_lt g0 (by omega), show (e.nm.size : Int) % 256 = e.nm.size from Int.emod_eq_of_lt (by omega) (by omega)])
      have h3 := HOI.out.l300
      have hnil := HOI.out.nil
      have HRW := Lib.hid HOI.out.row
      obtain ⟨mk, hmk⟩ : ∃ mk, mk = (allK l k).length := ⟨_, rfl⟩
      obtain ⟨Xk, hXk⟩ : ∃ Xk, Xk = (allK l k).map (Value.int .u8) := ⟨_, rfl⟩
      have HMK := Lib.hid hmk
      have HXK := Lib.hid hXk
      rw [← hmk] at hml
      rw [← hmk, ← hXk] at HO
      have HNL := Lib.hid (show (allK l (k + 1)).length = mk + 15 + e.bs.length + e.nm.size from by rw [HNX.out, List.length_append, opB_len, hmk]; omega)
      rw [← hmk]
      have wk : IntKind.i64.wrap ((k : Int) + 1) = (k : Int) + 1 := IntWalk.i64_in _ (by omega)
      clear hcur hce he hblk hmk hXk
      cases hup : e.up with
      | false =>
        rw [hup] at d5
        obtain ⟨q, hq⟩ : ∃ q, q = wr.heap.size := ⟨_, rfl⟩
        obtain ⟨w3, hw3⟩ : ∃ w3, w3 = wr.alloc (.cells #[.int .i64 e.kind, .slice e.A e.bs.length e.c, .string e.nm, .int .i64 e.host, .int .i64 e.n, .bool false] 27) := ⟨_, rfl⟩
        have E3 := Lib.hid hw3
        have EQ := Lib.hid hq
        have BA3 := Lib.hid (show Below wr.heap.size wr w3 from by rw [hw3]; exact (Below.refl _ _).alloc (Nat.le_refl _) _)
        have KQ3 := Lib.hid (show Blk w3 q 27 #[.int .i64 e.kind, .slice e.A e.bs.length e.c, .string e.nm, .int .i64 e.host, .int .i64 e.n, .bool false] from by rw [hw3, hq]; exact Blk.new wr _ _)
        obtain ⟨w4, hw4⟩ : ∃ w4, w4 = w3.alloc (.cells #[.int .u8 e.kind, .int .u8 0] 5) := ⟨_, rfl⟩
        have E4 := Lib.hid hw4
        have BA4 := Lib.hid (show Below w3.heap.size w3 w4 from by rw [hw4]; exact (Below.refl _ _).alloc (Nat.le_refl _) _)
        have BA := Lib.hid (BA3.out.trans (BA4.out.mono BA3.out.size))
        have KO4 := Lib.hid (own_below2 HO.out BA.out)
        have KB4 := Lib.hid (HB.out.trans (BA.out.mono HS.out))
        have KT4 := Lib.hid (HT.out.below BA.out)
        have KS4 := Lib.hid (Nat.le_trans HS.out BA.out.size)
        have KQ4 := Lib.hid (KQ3.out.below BA4.out KQ3.out.lt)
        have SZ3 := Lib.hid (show w3.heap.size = q + 1 from by rw [hw3, hq]; simp)
        have HN4 := Lib.hid (show ∀ j u, [.int .u8 e.kind, .int .u8 0][j]? = some u → w4.cell? ((⟨q + 1, 0, none⟩ : Addr).add j) = some u from by rw [← SZ3.out, hw4]; exact news4 w3 #[.int .u8 e.kind, .int .u8 0] 5)
        clear hq hw3 hw4
        go_upto_region 10 with (at_builtin; rw [← EQ.out, ← E3.out, ← E4.out]; refine wpList_append_own _ rfl (.tmp 24) (.tmp 29) _ rfl s0 5 i0 _ 1 1 Try.underlying25 HI0.out HZ0.out HZ1.out HZ2.out rfl (by omega) (.slice Ar mk cr) mk Xk rfl KO4.out ⟨q + 1, 0, none⟩ 2 2 [.int .u8 e.kind, .int .u8 0] rfl rfl HN4.out (one2 _ _) (by unfold maxLen; omega) (by omega) KS4.out ?_; intro v5 w5 ho5 hg5 _; have HB5 := Lib.hid (below_grown KB4.out KO4.out (Nat.le_refl _) KS4.out hg5); have HT5 := Lib.hid (KT4.out.grown KO4.out hg5); have HS5 := Lib.hid (Nat.le_trans KS4.out hg5.size); have KQ5 := Lib.hid (show Blk w5 q 27 #[.int .i64 e.kind, .slice e.A e.bs.length e.c, .string e.nm, .int .i64 e.host, .int .i64 e.n, .bool false] from (hg5.block q KQ4.out.lt (own_neT (by decide) KO4.out KQ4.out)).trans KQ4.out); obtain ⟨A5, c5, hv5⟩ := own_slice ho5; subst hv5; have HO5 := Lib.hid ho5; clear ho5 hg5)
        clear d0 d1 d2 d3 d4 d5
        have HUP := Lib.hid (show upZ e.up = 0 from by rw [hup]; rfl)
        have SQ5 : SQ w s0 q #[.int .i64 e.kind, .slice e.A e.bs.length e.c, .string e.nm, .int .i64 e.host, .int .i64 e.n, .bool false] w5.drew := ⟨KQ5.out.below (Below.refl _ _).drew KQ5.out.lt, HB5.out.drew, HT5.out.below (Below.refl _ _).drew, Nat.le_trans HS5.out (Nat.le_refl _)⟩
        have k0 : w5.drew.cell? ⟨q, 3, none⟩ = some (.int .i64 e.host) ∧ w5.drew.cell? ⟨q, 4, none⟩ = some (.int .i64 e.n) ∧ w5.drew.cell? ⟨q, 1, none⟩ = some (.slice e.A e.bs.length e.c) ∧ SQ w s0 q #[.int .i64 e.kind, .slice e.A e.bs.length e.c, .string e.nm, .int .i64 e.host, .int .i64 e.n, .bool false] w5.drew := ⟨SQ5.q.cell 3, SQ5.q.cell 4, SQ5.q.cell 1, SQ5⟩
        have HO5d := Lib.hid (own_below2 HO5.out (Below.refl _ _).drew)
        have HF := Lib.hid (show ∀ (A : Option Addr) (c m : Nat) (X : List Value) (n : Int) (V : World), (V.cell? ⟨q, 3, none⟩ = some (.int .i64 e.host) ∧ V.cell? ⟨q, 4, none⟩ = some (.int .i64 e.n) ∧ V.cell? ⟨q, 1, none⟩ = some (.slice e.A e.bs.length e.c) ∧ SQ w s0 q #[.int .i64 e.kind, .slice e.A e.bs.length e.c, .string e.nm, .int .i64 e.host, .int .i64 e.n, .bool false] V) → V.ownsRow s0 5 1 (.slice A m c) m X → m ≤ 50000 → 0 ≤ n → n < 9223372036854775808 → Calls Try.prog 22 #[.slice A m c, .int .i64 n] V fun o w' => (∃ A' c', o = .returned (.slice A' (m + 4) c') ∧ w'.ownsRow s0 5 1 (.slice A' (m + 4) c') (m + 4) (X ++ (pb n 4 4).map (.int .u8))) ∧ (w'.cell? ⟨q, 3, none⟩ = some (.int .i64 e.host) ∧ w'.cell? ⟨q, 4, none⟩ = some (.int .i64 e.n) ∧ w'.cell? ⟨q, 1, none⟩ = some (.slice e.A e.bs.length e.c) ∧ SQ w s0 q #[.int .i64 e.kind, .slice e.A e.bs.length e.c, .string e.nm, .int .i64 e.host, .int .i64 e.n, .bool false] w') from fun A c m X n V hV ho hm n0 n1 => by
          obtain ⟨_, _, _, hq9⟩ := hV
          refine (four_t _ m X n s0 s0 w V ho hq9.size (by omega) hq9.bel (Nat.le_refl _) n0 n1).mono ?_
          rintro o w' ⟨v', rfl, ho', hb', hs', hk'⟩
          obtain ⟨A', c', hv'⟩ := own_slice ho'
          subst hv'
          have hq' : SQ w s0 q #[.int .i64 e.kind, .slice e.A e.bs.length e.c, .string e.nm, .int .i64 e.host, .int .i64 e.n, .bool false] w' := ⟨hk' q _ _ (by decide) hq9.q, hb', hq9.keep.trans hk', hs'⟩
          exact ⟨⟨A', c', rfl, ho'⟩, hq'.q.cell 3, hq'.q.cell 4, hq'.q.cell 1, hq'⟩)
        clear SQ5
        go_wp2_with fail
        go_region_held3 (fun V => V.cell? ⟨q, 3, none⟩ = some (.int .i64 e.host) ∧ V.cell? ⟨q, 4, none⟩ = some (.int .i64 e.n) ∧ V.cell? ⟨q, 1, none⟩ = some (.slice e.A e.bs.length e.c) ∧ SQ w s0 q #[.int .i64 e.kind, .slice e.A e.bs.length e.c, .string e.nm, .int .i64 e.host, .int .i64 e.n, .bool false] V)
          (first | with_reducible exact k0 | with_reducible assumption)
          (first
            | (go_at_call 22
               first
                 | ((with_reducible refine (HF.out _ _ _ _ e.host _ (by assumption) HO5d.out (by omega) (by omega) (by omega)).mono ?_); rintro o w' ⟨⟨A6, c6, rfl, ho6⟩, hk6⟩; have HO6 := Lib.hid ho6; clear ho6)
                 | ((with_reducible refine (HF.out _ _ _ _ e.n _ (by assumption) HO6.out (by omega) (by omega) (by omega)).mono ?_); rintro o w' ⟨⟨A7, c7, rfl, ho7⟩, hk7⟩; have HO7 := Lib.hid ho7; clear ho7)
                 | ((with_reducible refine (HF.out _ _ _ _ (e.bs.length : Int) _ (by assumption) HO7.out (by omega) (by omega) (by omega)).mono ?_); rintro o w8 ⟨⟨A8, c8, rfl, ho8⟩, hk8⟩; have HO8 := Lib.hid ho8; clear ho8)))
        obtain ⟨_, _, _, hq8⟩ := hk8
        have HB8 := Lib.hid hq8.bel
        have HT8 := Lib.hid hq8.keep
        have HS8 := Lib.hid hq8.size
        have KQ8 := Lib.hid hq8.q
        obtain ⟨m8, hm8⟩ : ∃ m8, m8 = mk + 2 + 4 + 4 + 4 := ⟨_, rfl⟩
        obtain ⟨X8, hX8⟩ : ∃ X8, X8 = Xk ++ [.int .u8 e.kind, .int .u8 0] ++ (pb e.host 4 4).map (.int .u8) ++ (pb e.n 4 4).map (.int .u8) ++ (pb (e.bs.length : Int) 4 4).map (.int .u8) := ⟨_, rfl⟩
        rw [← hm8, ← hX8] at HO8
        rw [← hm8]
        have HM8 := Lib.hid (show m8 = mk + 14 from by omega)
        have HX8 := Lib.hid hX8
        have hm8b : m8 ≤ 40014 := by omega
        clear hm8 hX8 hq8 hk6 hk7 k0 HF HO6 HO7 HO5d HO5 HB5 HT5 HS5 KQ5 KO4 KB4 KT4 KS4 KQ4 HN4 E4 E3 EQ BA BA3 BA4 SZ3 HO
        cases hea : e.A with
        | none =>
          have hc0 := hnil hea
          have hb0 : e.bs = [] := by
            rcases HRW.out with h0 | ⟨_, _, e0, _⟩
            · simpa using h0
            · rw [hea] at e0; cases e0
          have HBS := Lib.hid hb0
          have hl0 : e.bs.length = 0 := by rw [hb0]; rfl
          rw [hea, hc0, hl0] at KQ8
          rw [hc0, hl0]
          have d8 : w8.cell? ⟨q, 1, none⟩ = some (.slice none 0 0) := KQ8.out.cell 1
          clear hb0
          go_upto_region 12 with (at_builtin; refine wpList_append_own_none rfl (.tmp 42) (.tmp 44) _ rfl s0 5 i0 1 Try.underlying25 HI0.out (.slice A8 m8 c8) m8 X8 rfl HO8.out rfl ?_)
          obtain ⟨w9, hw9⟩ : ∃ w9, w9 = w8 := ⟨_, rfl⟩
          rw [← hw9] at HO8 HB8 HS8 HT8 KQ8 ⊢
          have HO9 := HO8
          have HB9 := HB8
          have HS9 := HS8
          have HT9 := HT8
          have KQ9 := KQ8
          obtain ⟨m9, hm9⟩ : ∃ m9, m9 = m8 := ⟨_, rfl⟩
          obtain ⟨X9, hX9⟩ : ∃ X9, X9 = X8 := ⟨_, rfl⟩
          obtain ⟨A9, hA9⟩ : ∃ A9, A9 = A8 := ⟨_, rfl⟩
          obtain ⟨c9, hc9⟩ : ∃ c9, c9 = c8 := ⟨_, rfl⟩
          rw [← hm9, ← hX9, ← hA9, ← hc9] at HO9
          rw [← hm9, ← hA9, ← hc9]
          have HM9 := Lib.hid (show m9 = mk + 14 + e.bs.length from by rw [hm9, HM8.out, HBS.out]; rfl)
          have HX9 := Lib.hid (show X9 = X8 ++ e.bs.map (Value.int .u8) from by rw [hX9, HBS.out]; simp)
          clear hm9 hX9 hA9 hc9 hw9
          have hm9b : m9 ≤ 45000 := by have := HM9.out; omega
          have d9 : w9.cell? ⟨q, 2, none⟩ = some (.string e.nm) := KQ9.out.cell 2
          obtain ⟨w10, hw10⟩ : ∃ w10, w10 = w9.alloc (.cells #[.int .u8 (e.nm.size : Int)] 5) := ⟨_, rfl⟩
          have BA10 := Lib.hid (show Below w9.heap.size w9 w10 from by rw [hw10]; exact (Below.refl _ _).alloc (Nat.le_refl _) _)
          have KO10 := Lib.hid (show w10.ownsRow s0 5 1 (.slice A9 m9 c9) m9 X9 from by rw [hw10]; exact HO9.out.alloc _)
          have KB10 := Lib.hid (HB9.out.trans (BA10.out.mono HS9.out))
          have KT10 := Lib.hid (HT9.out.below BA10.out)
          have KS10 := Lib.hid (Nat.le_trans HS9.out BA10.out.size)
          have KQ10 := Lib.hid (KQ9.out.below BA10.out KQ9.out.lt)
          have HN10 := Lib.hid (show ∀ j u, [Value.int .u8 (e.nm.size : Int)][j]? = some u → w10.cell? ((⟨w9.heap.size, 0, none⟩ : Addr).add j) = some u from by rw [hw10]; exact news4 w9 #[.int .u8 (e.nm.size : Int)] 5)
          have E10 := Lib.hid hw10
          clear hw10
          go_upto_region 13 with (at_builtin; rw [← E10.out]; refine wpList_append_own _ rfl (.tmp 46) (.tmp 51) _ rfl s0 5 i0 _ 1 1 Try.underlying25 HI0.out HZ0.out HZ1.out HZ2.out rfl (by omega) (.slice A9 m9 c9) m9 X9 rfl KO10.out ⟨w9.heap.size, 0, none⟩ 1 1 [.int .u8 (e.nm.size : Int)] rfl rfl HN10.out (one1 _) (by unfold maxLen; omega) (by omega) KS10.out ?_; intro v11 w11 ho11 hg11 _; have HB11 := Lib.hid (below_grown KB10.out KO10.out (Nat.le_refl _) KS10.out hg11); have HT11 := Lib.hid (KT10.out.grown KO10.out hg11); have HS11 := Lib.hid (Nat.le_trans KS10.out hg11.size); have KQ11 := Lib.hid (show Blk w11 q 27 #[.int .i64 e.kind, .slice none 0 0, .string e.nm, .int .i64 e.host, .int .i64 e.n, .bool false] from (hg11.block q KQ10.out.lt (own_neT (by decide) KO10.out KQ10.out)).trans KQ10.out); obtain ⟨A11, c11, hv11⟩ := own_slice ho11; subst hv11; have HO11 := Lib.hid ho11; clear ho11 hg11)
          have d11 : w11.cell? ⟨q, 2, none⟩ = some (.string e.nm) := KQ11.out.cell 2
          have P71 := Lib.hid (show (m9 + 1) + e.nm.size ≤ maxLen by unfold maxLen; omega)
          have P72 := Lib.hid (show (m9 + 1) + e.nm.size ≤ 140737488355328 by omega)
          clear d9
          go_wp2_with (at_builtin; refine Lib.wpList_append_own_string _ rfl (.tmp 53) (.tmp 55) _ _ rfl s0 5 i0 Try.underlying25 Try.underlying9 HI0.out HZ0.out HZ1.out HZ2.out (.slice A11 (m9 + 1) c11) (m9 + 1) (X9 ++ [.int .u8 (e.nm.size : Int)]) rfl HO11.out e.nm rfl P71.out P72.out HS11.out ?_; intro v12 w12 ho12 hg12 _; have HO12 := Lib.hid ho12; have HB12 := Lib.hid (below_grown HB11.out HO11.out (Nat.le_refl _) HS11.out hg12); have HT12 := Lib.hid (HT11.out.grown HO11.out hg12); have HS12 := Lib.hid (Nat.le_trans HS11.out hg12.size); obtain ⟨A12, c12, hv12⟩ := own_slice ho12; subst hv12; clear ho12 hg12)
          have HOZ := Lib.hid (show w12.ownsRow s0 5 1 (.slice A12 (m9 + 1 + e.nm.size) c12) (allK l (k + 1)).length ((allK l (k + 1)).map (.int .u8)) from by
            have h9 := HO12.out
            have e1 : m9 + 1 + e.nm.size = mk + 15 + e.bs.length + e.nm.size := by have := HM9.out; omega
            rw [HNL.out, ← e1, HNX.out, List.map_append, HOP.out, ← HXK.out]
            rw [strCells_Z, HX9.out, HX8.out] at h9
            simp only [List.map_append, List.append_assoc, List.map_cons, List.cons_append, List.nil_append, HUP.out] at h9 ⊢
            exact h9)
          go_roundw
          case rel => exact ⟨k + 1, by go_num, by omega, HOZ, HB12, HT12, HS12⟩
          case measure => simp [intOf]; omega
        | some ad =>
          rw [hea] at KQ8 HRW
          skip
          have d8 : w8.cell? ⟨q, 1, none⟩ = some (.slice (some ad) e.bs.length e.c) := KQ8.out.cell 1
          have HNE := Lib.hid (row_news (((HRW.out.more (Nat.le_of_eq HS0.out.symm)).below HB8.out)))
          have HLn := Lib.hid (show (e.bs.map (Value.int .u8)).length = e.bs.length * 1 from by rw [List.length_map, Nat.mul_one])
          have H1c := Lib.hid (show ∀ u ∈ e.bs.map (Value.int .u8), u.oneCell' = true from fun u hu => by
            rw [List.mem_map] at hu
            obtain ⟨x, _, rfl⟩ := hu
            rfl)
          have P1 := Lib.hid (show m8 + e.bs.length ≤ maxLen by unfold maxLen; omega)
          have P2 := Lib.hid (show (m8 + e.bs.length) * 1 ≤ 140737488355328 by omega)
          go_upto_region 12 with (at_builtin; refine wpList_append_own _ rfl (.tmp 42) (.tmp 44) _ rfl s0 5 i0 _ 1 1 Try.underlying25 HI0.out HZ0.out HZ1.out HZ2.out rfl (by omega) (.slice A8 m8 c8) m8 X8 rfl HO8.out ad e.bs.length e.c (e.bs.map (.int .u8)) rfl HLn.out HNE.out H1c.out P1.out P2.out HS8.out ?_; intro v9 w9 ho9 hg9 _; have HB9 := Lib.hid (below_grown HB8.out HO8.out (Nat.le_refl _) HS8.out hg9); have HT9 := Lib.hid (HT8.out.grown HO8.out hg9); have HS9 := Lib.hid (Nat.le_trans HS8.out hg9.size); have KQ9 := Lib.hid (show Blk w9 q 27 #[.int .i64 e.kind, .slice (some ad) e.bs.length e.c, .string e.nm, .int .i64 e.host, .int .i64 e.n, .bool false] from (hg9.block q KQ8.out.lt (own_neT (by decide) HO8.out KQ8.out)).trans KQ8.out); obtain ⟨A9, c9, hv9⟩ := own_slice ho9; subst hv9; have HO9 := Lib.hid ho9; clear ho9 hg9)
          obtain ⟨m9, hm9⟩ : ∃ m9, m9 = m8 + e.bs.length := ⟨_, rfl⟩
          obtain ⟨X9, hX9⟩ : ∃ X9, X9 = X8 ++ e.bs.map (Value.int .u8) := ⟨_, rfl⟩
          rw [← hm9, ← hX9] at HO9
          rw [← hm9]
          have HM9 := Lib.hid (show m9 = mk + 14 + e.bs.length from by rw [hm9, HM8.out])
          have HX9 := Lib.hid hX9
          clear hm9 hX9
          have hm9b : m9 ≤ 45000 := by have := HM9.out; omega
          have d9 : w9.cell? ⟨q, 2, none⟩ = some (.string e.nm) := KQ9.out.cell 2
          obtain ⟨w10, hw10⟩ : ∃ w10, w10 = w9.alloc (.cells #[.int .u8 (e.nm.size : Int)] 5) := ⟨_, rfl⟩
          have BA10 := Lib.hid (show Below w9.heap.size w9 w10 from by rw [hw10]; exact (Below.refl _ _).alloc (Nat.le_refl _) _)
          have KO10 := Lib.hid (show w10.ownsRow s0 5 1 (.slice A9 m9 c9) m9 X9 from by rw [hw10]; exact HO9.out.alloc _)
          have KB10 := Lib.hid (HB9.out.trans (BA10.out.mono HS9.out))
          have KT10 := Lib.hid (HT9.out.below BA10.out)
          have KS10 := Lib.hid (Nat.le_trans HS9.out BA10.out.size)
          have KQ10 := Lib.hid (KQ9.out.below BA10.out KQ9.out.lt)
          have HN10 := Lib.hid (show ∀ j u, [Value.int .u8 (e.nm.size : Int)][j]? = some u → w10.cell? ((⟨w9.heap.size, 0, none⟩ : Addr).add j) = some u from by rw [hw10]; exact news4 w9 #[.int .u8 (e.nm.size : Int)] 5)
          have E10 := Lib.hid hw10
          clear hw10
          go_upto_region 13 with (at_builtin; rw [← E10.out]; refine wpList_append_own _ rfl (.tmp 46) (.tmp 51) _ rfl s0 5 i0 _ 1 1 Try.underlying25 HI0.out HZ0.out HZ1.out HZ2.out rfl (by omega) (.slice A9 m9 c9) m9 X9 rfl KO10.out ⟨w9.heap.size, 0, none⟩ 1 1 [.int .u8 (e.nm.size : Int)] rfl rfl HN10.out (one1 _) (by unfold maxLen; omega) (by omega) KS10.out ?_; intro v11 w11 ho11 hg11 _; have HB11 := Lib.hid (below_grown KB10.out KO10.out (Nat.le_refl _) KS10.out hg11); have HT11 := Lib.hid (KT10.out.grown KO10.out hg11); have HS11 := Lib.hid (Nat.le_trans KS10.out hg11.size); have KQ11 := Lib.hid (show Blk w11 q 27 #[.int .i64 e.kind, .slice (some ad) e.bs.length e.c, .string e.nm, .int .i64 e.host, .int .i64 e.n, .bool false] from (hg11.block q KQ10.out.lt (own_neT (by decide) KO10.out KQ10.out)).trans KQ10.out); obtain ⟨A11, c11, hv11⟩ := own_slice ho11; subst hv11; have HO11 := Lib.hid ho11; clear ho11 hg11)
          have d11 : w11.cell? ⟨q, 2, none⟩ = some (.string e.nm) := KQ11.out.cell 2
          have P71 := Lib.hid (show (m9 + 1) + e.nm.size ≤ maxLen by unfold maxLen; omega)
          have P72 := Lib.hid (show (m9 + 1) + e.nm.size ≤ 140737488355328 by omega)
          clear d9
          go_wp2_with (at_builtin; refine Lib.wpList_append_own_string _ rfl (.tmp 53) (.tmp 55) _ _ rfl s0 5 i0 Try.underlying25 Try.underlying9 HI0.out HZ0.out HZ1.out HZ2.out (.slice A11 (m9 + 1) c11) (m9 + 1) (X9 ++ [.int .u8 (e.nm.size : Int)]) rfl HO11.out e.nm rfl P71.out P72.out HS11.out ?_; intro v12 w12 ho12 hg12 _; have HO12 := Lib.hid ho12; have HB12 := Lib.hid (below_grown HB11.out HO11.out (Nat.le_refl _) HS11.out hg12); have HT12 := Lib.hid (HT11.out.grown HO11.out hg12); have HS12 := Lib.hid (Nat.le_trans HS11.out hg12.size); obtain ⟨A12, c12, hv12⟩ := own_slice ho12; subst hv12; clear ho12 hg12)
          have HOZ := Lib.hid (show w12.ownsRow s0 5 1 (.slice A12 (m9 + 1 + e.nm.size) c12) (allK l (k + 1)).length ((allK l (k + 1)).map (.int .u8)) from by
            have h9 := HO12.out
            have e1 : m9 + 1 + e.nm.size = mk + 15 + e.bs.length + e.nm.size := by have := HM9.out; omega
            rw [HNL.out, ← e1, HNX.out, List.map_append, HOP.out, ← HXK.out]
            rw [strCells_Z, HX9.out, HX8.out] at h9
            simp only [List.map_append, List.append_assoc, List.map_cons, List.cons_append, List.nil_append, HUP.out] at h9 ⊢
            exact h9)
          go_roundw
          case rel => exact ⟨k + 1, by go_num, by omega, HOZ, HB12, HT12, HS12⟩
          case measure => simp [intOf]; omega
      | true =>
        rw [hup] at d5
        obtain ⟨q, hq⟩ : ∃ q, q = wr.heap.size := ⟨_, rfl⟩
        obtain ⟨w3, hw3⟩ : ∃ w3, w3 = wr.alloc (.cells #[.int .i64 e.kind, .slice e.A e.bs.length e.c, .string e.nm, .int .i64 e.host, .int .i64 e.n, .bool true] 27) := ⟨_, rfl⟩
        have E3 := Lib.hid hw3
        have EQ := Lib.hid hq
        have BA3 := Lib.hid (show Below wr.heap.size wr w3 from by rw [hw3]; exact (Below.refl _ _).alloc (Nat.le_refl _) _)
        have KQ3 := Lib.hid (show Blk w3 q 27 #[.int .i64 e.kind, .slice e.A e.bs.length e.c, .string e.nm, .int .i64 e.host, .int .i64 e.n, .bool true] from by rw [hw3, hq]; exact Blk.new wr _ _)
        obtain ⟨w4, hw4⟩ : ∃ w4, w4 = w3.alloc (.cells #[.int .u8 e.kind, .int .u8 1] 5) := ⟨_, rfl⟩
        have E4 := Lib.hid hw4
        have BA4 := Lib.hid (show Below w3.heap.size w3 w4 from by rw [hw4]; exact (Below.refl _ _).alloc (Nat.le_refl _) _)
        have BA := Lib.hid (BA3.out.trans (BA4.out.mono BA3.out.size))
        have KO4 := Lib.hid (own_below2 HO.out BA.out)
        have KB4 := Lib.hid (HB.out.trans (BA.out.mono HS.out))
        have KT4 := Lib.hid (HT.out.below BA.out)
        have KS4 := Lib.hid (Nat.le_trans HS.out BA.out.size)
        have KQ4 := Lib.hid (KQ3.out.below BA4.out KQ3.out.lt)
        have SZ3 := Lib.hid (show w3.heap.size = q + 1 from by rw [hw3, hq]; simp)
        have HN4 := Lib.hid (show ∀ j u, [.int .u8 e.kind, .int .u8 1][j]? = some u → w4.cell? ((⟨q + 1, 0, none⟩ : Addr).add j) = some u from by rw [← SZ3.out, hw4]; exact news4 w3 #[.int .u8 e.kind, .int .u8 1] 5)
        clear hq hw3 hw4
        go_upto_region 10 with (at_builtin; rw [← EQ.out, ← E3.out, ← E4.out]; refine wpList_append_own _ rfl (.tmp 24) (.tmp 29) _ rfl s0 5 i0 _ 1 1 Try.underlying25 HI0.out HZ0.out HZ1.out HZ2.out rfl (by omega) (.slice Ar mk cr) mk Xk rfl KO4.out ⟨q + 1, 0, none⟩ 2 2 [.int .u8 e.kind, .int .u8 1] rfl rfl HN4.out (one2 _ _) (by unfold maxLen; omega) (by omega) KS4.out ?_; intro v5 w5 ho5 hg5 _; have HB5 := Lib.hid (below_grown KB4.out KO4.out (Nat.le_refl _) KS4.out hg5); have HT5 := Lib.hid (KT4.out.grown KO4.out hg5); have HS5 := Lib.hid (Nat.le_trans KS4.out hg5.size); have KQ5 := Lib.hid (show Blk w5 q 27 #[.int .i64 e.kind, .slice e.A e.bs.length e.c, .string e.nm, .int .i64 e.host, .int .i64 e.n, .bool true] from (hg5.block q KQ4.out.lt (own_neT (by decide) KO4.out KQ4.out)).trans KQ4.out); obtain ⟨A5, c5, hv5⟩ := own_slice ho5; subst hv5; have HO5 := Lib.hid ho5; clear ho5 hg5)
        clear d0 d1 d2 d3 d4 d5
        have HUP := Lib.hid (show upZ e.up = 1 from by rw [hup]; rfl)
        have SQ5 : SQ w s0 q #[.int .i64 e.kind, .slice e.A e.bs.length e.c, .string e.nm, .int .i64 e.host, .int .i64 e.n, .bool true] w5.drew := ⟨KQ5.out.below (Below.refl _ _).drew KQ5.out.lt, HB5.out.drew, HT5.out.below (Below.refl _ _).drew, Nat.le_trans HS5.out (Nat.le_refl _)⟩
        have k0 : w5.drew.cell? ⟨q, 3, none⟩ = some (.int .i64 e.host) ∧ w5.drew.cell? ⟨q, 4, none⟩ = some (.int .i64 e.n) ∧ w5.drew.cell? ⟨q, 1, none⟩ = some (.slice e.A e.bs.length e.c) ∧ SQ w s0 q #[.int .i64 e.kind, .slice e.A e.bs.length e.c, .string e.nm, .int .i64 e.host, .int .i64 e.n, .bool true] w5.drew := ⟨SQ5.q.cell 3, SQ5.q.cell 4, SQ5.q.cell 1, SQ5⟩
        have HO5d := Lib.hid (own_below2 HO5.out (Below.refl _ _).drew)
        have HF := Lib.hid (show ∀ (A : Option Addr) (c m : Nat) (X : List Value) (n : Int) (V : World), (V.cell? ⟨q, 3, none⟩ = some (.int .i64 e.host) ∧ V.cell? ⟨q, 4, none⟩ = some (.int .i64 e.n) ∧ V.cell? ⟨q, 1, none⟩ = some (.slice e.A e.bs.length e.c) ∧ SQ w s0 q #[.int .i64 e.kind, .slice e.A e.bs.length e.c, .string e.nm, .int .i64 e.host, .int .i64 e.n, .bool true] V) → V.ownsRow s0 5 1 (.slice A m c) m X → m ≤ 50000 → 0 ≤ n → n < 9223372036854775808 → Calls Try.prog 22 #[.slice A m c, .int .i64 n] V fun o w' => (∃ A' c', o = .returned (.slice A' (m + 4) c') ∧ w'.ownsRow s0 5 1 (.slice A' (m + 4) c') (m + 4) (X ++ (pb n 4 4).map (.int .u8))) ∧ (w'.cell? ⟨q, 3, none⟩ = some (.int .i64 e.host) ∧ w'.cell? ⟨q, 4, none⟩ = some (.int .i64 e.n) ∧ w'.cell? ⟨q, 1, none⟩ = some (.slice e.A e.bs.length e.c) ∧ SQ w s0 q #[.int .i64 e.kind, .slice e.A e.bs.length e.c, .string e.nm, .int .i64 e.host, .int .i64 e.n, .bool true] w') from fun A c m X n V hV ho hm n0 n1 => by
          obtain ⟨_, _, _, hq9⟩ := hV
          refine (four_t _ m X n s0 s0 w V ho hq9.size (by omega) hq9.bel (Nat.le_refl _) n0 n1).mono ?_
          rintro o w' ⟨v', rfl, ho', hb', hs', hk'⟩
          obtain ⟨A', c', hv'⟩ := own_slice ho'
          subst hv'
          have hq' : SQ w s0 q #[.int .i64 e.kind, .slice e.A e.bs.length e.c, .string e.nm, .int .i64 e.host, .int .i64 e.n, .bool true] w' := ⟨hk' q _ _ (by decide) hq9.q, hb', hq9.keep.trans hk', hs'⟩
          exact ⟨⟨A', c', rfl, ho'⟩, hq'.q.cell 3, hq'.q.cell 4, hq'.q.cell 1, hq'⟩)
        clear SQ5
        go_wp2_with fail
        go_region_held3 (fun V => V.cell? ⟨q, 3, none⟩ = some (.int .i64 e.host) ∧ V.cell? ⟨q, 4, none⟩ = some (.int .i64 e.n) ∧ V.cell? ⟨q, 1, none⟩ = some (.slice e.A e.bs.length e.c) ∧ SQ w s0 q #[.int .i64 e.kind, .slice e.A e.bs.length e.c, .string e.nm, .int .i64 e.host, .int .i64 e.n, .bool true] V)
          (first | with_reducible exact k0 | with_reducible assumption)
          (first
            | (go_at_call 22
               first
                 | ((with_reducible refine (HF.out _ _ _ _ e.host _ (by assumption) HO5d.out (by omega) (by omega) (by omega)).mono ?_); rintro o w' ⟨⟨A6, c6, rfl, ho6⟩, hk6⟩; have HO6 := Lib.hid ho6; clear ho6)
                 | ((with_reducible refine (HF.out _ _ _ _ e.n _ (by assumption) HO6.out (by omega) (by omega) (by omega)).mono ?_); rintro o w' ⟨⟨A7, c7, rfl, ho7⟩, hk7⟩; have HO7 := Lib.hid ho7; clear ho7)
                 | ((with_reducible refine (HF.out _ _ _ _ (e.bs.length : Int) _ (by assumption) HO7.out (by omega) (by omega) (by omega)).mono ?_); rintro o w8 ⟨⟨A8, c8, rfl, ho8⟩, hk8⟩; have HO8 := Lib.hid ho8; clear ho8)))
        obtain ⟨_, _, _, hq8⟩ := hk8
        have HB8 := Lib.hid hq8.bel
        have HT8 := Lib.hid hq8.keep
        have HS8 := Lib.hid hq8.size
        have KQ8 := Lib.hid hq8.q
        obtain ⟨m8, hm8⟩ : ∃ m8, m8 = mk + 2 + 4 + 4 + 4 := ⟨_, rfl⟩
        obtain ⟨X8, hX8⟩ : ∃ X8, X8 = Xk ++ [.int .u8 e.kind, .int .u8 1] ++ (pb e.host 4 4).map (.int .u8) ++ (pb e.n 4 4).map (.int .u8) ++ (pb (e.bs.length : Int) 4 4).map (.int .u8) := ⟨_, rfl⟩
        rw [← hm8, ← hX8] at HO8
        rw [← hm8]
        have HM8 := Lib.hid (show m8 = mk + 14 from by omega)
        have HX8 := Lib.hid hX8
        have hm8b : m8 ≤ 40014 := by omega
        clear hm8 hX8 hq8 hk6 hk7 k0 HF HO6 HO7 HO5d HO5 HB5 HT5 HS5 KQ5 KO4 KB4 KT4 KS4 KQ4 HN4 E4 E3 EQ BA BA3 BA4 SZ3 HO
        cases hea : e.A with
        | none =>
          have hc0 := hnil hea
          have hb0 : e.bs = [] := by
            rcases HRW.out with h0 | ⟨_, _, e0, _⟩
            · simpa using h0
            · rw [hea] at e0; cases e0
          have HBS := Lib.hid hb0
          have hl0 : e.bs.length = 0 := by rw [hb0]; rfl
          rw [hea, hc0, hl0] at KQ8
          rw [hc0, hl0]
          have d8 : w8.cell? ⟨q, 1, none⟩ = some (.slice none 0 0) := KQ8.out.cell 1
          clear hb0
          go_upto_region 12 with (at_builtin; refine wpList_append_own_none rfl (.tmp 42) (.tmp 44) _ rfl s0 5 i0 1 Try.underlying25 HI0.out (.slice A8 m8 c8) m8 X8 rfl HO8.out rfl ?_)
          obtain ⟨w9, hw9⟩ : ∃ w9, w9 = w8 := ⟨_, rfl⟩
          rw [← hw9] at HO8 HB8 HS8 HT8 KQ8 ⊢
          have HO9 := HO8
          have HB9 := HB8
          have HS9 := HS8
          have HT9 := HT8
          have KQ9 := KQ8
          obtain ⟨m9, hm9⟩ : ∃ m9, m9 = m8 := ⟨_, rfl⟩
          obtain ⟨X9, hX9⟩ : ∃ X9, X9 = X8 := ⟨_, rfl⟩
          obtain ⟨A9, hA9⟩ : ∃ A9, A9 = A8 := ⟨_, rfl⟩
          obtain ⟨c9, hc9⟩ : ∃ c9, c9 = c8 := ⟨_, rfl⟩
          rw [← hm9, ← hX9, ← hA9, ← hc9] at HO9
          rw [← hm9, ← hA9, ← hc9]
          have HM9 := Lib.hid (show m9 = mk + 14 + e.bs.length from by rw [hm9, HM8.out, HBS.out]; rfl)
          have HX9 := Lib.hid (show X9 = X8 ++ e.bs.map (Value.int .u8) from by rw [hX9, HBS.out]; simp)
          clear hm9 hX9 hA9 hc9 hw9
          have hm9b : m9 ≤ 45000 := by have := HM9.out; omega
          have d9 : w9.cell? ⟨q, 2, none⟩ = some (.string e.nm) := KQ9.out.cell 2
          obtain ⟨w10, hw10⟩ : ∃ w10, w10 = w9.alloc (.cells #[.int .u8 (e.nm.size : Int)] 5) := ⟨_, rfl⟩
          have BA10 := Lib.hid (show Below w9.heap.size w9 w10 from by rw [hw10]; exact (Below.refl _ _).alloc (Nat.le_refl _) _)
          have KO10 := Lib.hid (show w10.ownsRow s0 5 1 (.slice A9 m9 c9) m9 X9 from by rw [hw10]; exact HO9.out.alloc _)
          have KB10 := Lib.hid (HB9.out.trans (BA10.out.mono HS9.out))
          have KT10 := Lib.hid (HT9.out.below BA10.out)
          have KS10 := Lib.hid (Nat.le_trans HS9.out BA10.out.size)
          have KQ10 := Lib.hid (KQ9.out.below BA10.out KQ9.out.lt)
          have HN10 := Lib.hid (show ∀ j u, [Value.int .u8 (e.nm.size : Int)][j]? = some u → w10.cell? ((⟨w9.heap.size, 0, none⟩ : Addr).add j) = some u from by rw [hw10]; exact news4 w9 #[.int .u8 (e.nm.size : Int)] 5)
          have E10 := Lib.hid hw10
          clear hw10
          go_upto_region 13 with (at_builtin; rw [← E10.out]; refine wpList_append_own _ rfl (.tmp 46) (.tmp 51) _ rfl s0 5 i0 _ 1 1 Try.underlying25 HI0.out HZ0.out HZ1.out HZ2.out rfl (by omega) (.slice A9 m9 c9) m9 X9 rfl KO10.out ⟨w9.heap.size, 0, none⟩ 1 1 [.int .u8 (e.nm.size : Int)] rfl rfl HN10.out (one1 _) (by unfold maxLen; omega) (by omega) KS10.out ?_; intro v11 w11 ho11 hg11 _; have HB11 := Lib.hid (below_grown KB10.out KO10.out (Nat.le_refl _) KS10.out hg11); have HT11 := Lib.hid (KT10.out.grown KO10.out hg11); have HS11 := Lib.hid (Nat.le_trans KS10.out hg11.size); have KQ11 := Lib.hid (show Blk w11 q 27 #[.int .i64 e.kind, .slice none 0 0, .string e.nm, .int .i64 e.host, .int .i64 e.n, .bool true] from (hg11.block q KQ10.out.lt (own_neT (by decide) KO10.out KQ10.out)).trans KQ10.out); obtain ⟨A11, c11, hv11⟩ := own_slice ho11; subst hv11; have HO11 := Lib.hid ho11; clear ho11 hg11)
          have d11 : w11.cell? ⟨q, 2, none⟩ = some (.string e.nm) := KQ11.out.cell 2
          have P71 := Lib.hid (show (m9 + 1) + e.nm.size ≤ maxLen by unfold maxLen; omega)
          have P72 := Lib.hid (show (m9 + 1) + e.nm.size ≤ 140737488355328 by omega)
          clear d9
          go_wp2_with (at_builtin; refine Lib.wpList_append_own_string _ rfl (.tmp 53) (.tmp 55) _ _ rfl s0 5 i0 Try.underlying25 Try.underlying9 HI0.out HZ0.out HZ1.out HZ2.out (.slice A11 (m9 + 1) c11) (m9 + 1) (X9 ++ [.int .u8 (e.nm.size : Int)]) rfl HO11.out e.nm rfl P71.out P72.out HS11.out ?_; intro v12 w12 ho12 hg12 _; have HO12 := Lib.hid ho12; have HB12 := Lib.hid (below_grown HB11.out HO11.out (Nat.le_refl _) HS11.out hg12); have HT12 := Lib.hid (HT11.out.grown HO11.out hg12); have HS12 := Lib.hid (Nat.le_trans HS11.out hg12.size); obtain ⟨A12, c12, hv12⟩ := own_slice ho12; subst hv12; clear ho12 hg12)
          have HOZ := Lib.hid (show w12.ownsRow s0 5 1 (.slice A12 (m9 + 1 + e.nm.size) c12) (allK l (k + 1)).length ((allK l (k + 1)).map (.int .u8)) from by
            have h9 := HO12.out
            have e1 : m9 + 1 + e.nm.size = mk + 15 + e.bs.length + e.nm.size := by have := HM9.out; omega
            rw [HNL.out, ← e1, HNX.out, List.map_append, HOP.out, ← HXK.out]
            rw [strCells_Z, HX9.out, HX8.out] at h9
            simp only [List.map_append, List.append_assoc, List.map_cons, List.cons_append, List.nil_append, HUP.out] at h9 ⊢
            exact h9)
          go_roundw
          case rel => exact ⟨k + 1, by go_num, by omega, HOZ, HB12, HT12, HS12⟩
          case measure => simp [intOf]; omega
        | some ad =>
          rw [hea] at KQ8 HRW
          skip
          have d8 : w8.cell? ⟨q, 1, none⟩ = some (.slice (some ad) e.bs.length e.c) := KQ8.out.cell 1
          have HNE := Lib.hid (row_news (((HRW.out.more (Nat.le_of_eq HS0.out.symm)).below HB8.out)))
          have HLn := Lib.hid (show (e.bs.map (Value.int .u8)).length = e.bs.length * 1 from by rw [List.length_map, Nat.mul_one])
          have H1c := Lib.hid (show ∀ u ∈ e.bs.map (Value.int .u8), u.oneCell' = true from fun u hu => by
            rw [List.mem_map] at hu
            obtain ⟨x, _, rfl⟩ := hu
            rfl)
          have P1 := Lib.hid (show m8 + e.bs.length ≤ maxLen by unfold maxLen; omega)
          have P2 := Lib.hid (show (m8 + e.bs.length) * 1 ≤ 140737488355328 by omega)
          go_upto_region 12 with (at_builtin; refine wpList_append_own _ rfl (.tmp 42) (.tmp 44) _ rfl s0 5 i0 _ 1 1 Try.underlying25 HI0.out HZ0.out HZ1.out HZ2.out rfl (by omega) (.slice A8 m8 c8) m8 X8 rfl HO8.out ad e.bs.length e.c (e.bs.map (.int .u8)) rfl HLn.out HNE.out H1c.out P1.out P2.out HS8.out ?_; intro v9 w9 ho9 hg9 _; have HB9 := Lib.hid (below_grown HB8.out HO8.out (Nat.le_refl _) HS8.out hg9); have HT9 := Lib.hid (HT8.out.grown HO8.out hg9); have HS9 := Lib.hid (Nat.le_trans HS8.out hg9.size); have KQ9 := Lib.hid (show Blk w9 q 27 #[.int .i64 e.kind, .slice (some ad) e.bs.length e.c, .string e.nm, .int .i64 e.host, .int .i64 e.n, .bool true] from (hg9.block q KQ8.out.lt (own_neT (by decide) HO8.out KQ8.out)).trans KQ8.out); obtain ⟨A9, c9, hv9⟩ := own_slice ho9; subst hv9; have HO9 := Lib.hid ho9; clear ho9 hg9)
          obtain ⟨m9, hm9⟩ : ∃ m9, m9 = m8 + e.bs.length := ⟨_, rfl⟩
          obtain ⟨X9, hX9⟩ : ∃ X9, X9 = X8 ++ e.bs.map (Value.int .u8) := ⟨_, rfl⟩
          rw [← hm9, ← hX9] at HO9
          rw [← hm9]
          have HM9 := Lib.hid (show m9 = mk + 14 + e.bs.length from by rw [hm9, HM8.out])
          have HX9 := Lib.hid hX9
          clear hm9 hX9
          have hm9b : m9 ≤ 45000 := by have := HM9.out; omega
          have d9 : w9.cell? ⟨q, 2, none⟩ = some (.string e.nm) := KQ9.out.cell 2
          obtain ⟨w10, hw10⟩ : ∃ w10, w10 = w9.alloc (.cells #[.int .u8 (e.nm.size : Int)] 5) := ⟨_, rfl⟩
          have BA10 := Lib.hid (show Below w9.heap.size w9 w10 from by rw [hw10]; exact (Below.refl _ _).alloc (Nat.le_refl _) _)
          have KO10 := Lib.hid (show w10.ownsRow s0 5 1 (.slice A9 m9 c9) m9 X9 from by rw [hw10]; exact HO9.out.alloc _)
          have KB10 := Lib.hid (HB9.out.trans (BA10.out.mono HS9.out))
          have KT10 := Lib.hid (HT9.out.below BA10.out)
          have KS10 := Lib.hid (Nat.le_trans HS9.out BA10.out.size)
          have KQ10 := Lib.hid (KQ9.out.below BA10.out KQ9.out.lt)
          have HN10 := Lib.hid (show ∀ j u, [Value.int .u8 (e.nm.size : Int)][j]? = some u → w10.cell? ((⟨w9.heap.size, 0, none⟩ : Addr).add j) = some u from by rw [hw10]; exact news4 w9 #[.int .u8 (e.nm.size : Int)] 5)
          have E10 := Lib.hid hw10
          clear hw10
          go_upto_region 13 with (at_builtin; rw [← E10.out]; refine wpList_append_own _ rfl (.tmp 46) (.tmp 51) _ rfl s0 5 i0 _ 1 1 Try.underlying25 HI0.out HZ0.out HZ1.out HZ2.out rfl (by omega) (.slice A9 m9 c9) m9 X9 rfl KO10.out ⟨w9.heap.size, 0, none⟩ 1 1 [.int .u8 (e.nm.size : Int)] rfl rfl HN10.out (one1 _) (by unfold maxLen; omega) (by omega) KS10.out ?_; intro v11 w11 ho11 hg11 _; have HB11 := Lib.hid (below_grown KB10.out KO10.out (Nat.le_refl _) KS10.out hg11); have HT11 := Lib.hid (KT10.out.grown KO10.out hg11); have HS11 := Lib.hid (Nat.le_trans KS10.out hg11.size); have KQ11 := Lib.hid (show Blk w11 q 27 #[.int .i64 e.kind, .slice (some ad) e.bs.length e.c, .string e.nm, .int .i64 e.host, .int .i64 e.n, .bool true] from (hg11.block q KQ10.out.lt (own_neT (by decide) KO10.out KQ10.out)).trans KQ10.out); obtain ⟨A11, c11, hv11⟩ := own_slice ho11; subst hv11; have HO11 := Lib.hid ho11; clear ho11 hg11)
          have d11 : w11.cell? ⟨q, 2, none⟩ = some (.string e.nm) := KQ11.out.cell 2
          have P71 := Lib.hid (show (m9 + 1) + e.nm.size ≤ maxLen by unfold maxLen; omega)
          have P72 := Lib.hid (show (m9 + 1) + e.nm.size ≤ 140737488355328 by omega)
          clear d9
          go_wp2_with (at_builtin; refine Lib.wpList_append_own_string _ rfl (.tmp 53) (.tmp 55) _ _ rfl s0 5 i0 Try.underlying25 Try.underlying9 HI0.out HZ0.out HZ1.out HZ2.out (.slice A11 (m9 + 1) c11) (m9 + 1) (X9 ++ [.int .u8 (e.nm.size : Int)]) rfl HO11.out e.nm rfl P71.out P72.out HS11.out ?_; intro v12 w12 ho12 hg12 _; have HO12 := Lib.hid ho12; have HB12 := Lib.hid (below_grown HB11.out HO11.out (Nat.le_refl _) HS11.out hg12); have HT12 := Lib.hid (HT11.out.grown HO11.out hg12); have HS12 := Lib.hid (Nat.le_trans HS11.out hg12.size); obtain ⟨A12, c12, hv12⟩ := own_slice ho12; subst hv12; clear ho12 hg12)
          have HOZ := Lib.hid (show w12.ownsRow s0 5 1 (.slice A12 (m9 + 1 + e.nm.size) c12) (allK l (k + 1)).length ((allK l (k + 1)).map (.int .u8)) from by
            have h9 := HO12.out
            have e1 : m9 + 1 + e.nm.size = mk + 15 + e.bs.length + e.nm.size := by have := HM9.out; omega
            rw [HNL.out, ← e1, HNX.out, List.map_append, HOP.out, ← HXK.out]
            rw [strCells_Z, HX9.out, HX8.out] at h9
            simp only [List.map_append, List.append_assoc, List.map_cons, List.cons_append, List.nil_append, HUP.out] at h9 ⊢
            exact h9)
          go_roundw
          case rel => exact ⟨k + 1, by go_num, by omega, HOZ, HB12, HT12, HS12⟩
          case measure => simp [intOf]; omega
    · have t1 : decide ((k : Int) < n) = false := decide_eq_false (by omega)
      have t1n : decide (k < n) = false := decide_eq_false hkn
      have hkl : k = l.length := by have := HN.out; omega
      have HF := Lib.hid (show allK l k = allO l from by rw [hkl]; exact allK_all l)
      have HOF := HO.out
      rw [HF.out] at HOF ⊢
      have HOG := Lib.hid HOF
      clear HOF hkl
      go_wp2_with fail
      go_ret
      exact ⟨HB.out, _, rfl, HOG.out⟩
end Go.Proofs.Ytmlicmcphecakaa.snG
