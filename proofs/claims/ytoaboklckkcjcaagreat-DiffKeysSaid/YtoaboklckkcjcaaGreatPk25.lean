/- 1 texts in one. -/
import Derived.Test.YtoaboklckkcjcaaGreatPk11
import Derived.Test.YtoaboklckkcjcaaGreatPk17
import Derived.Test.YtoaboklckkcjcaaGreatPk22
/- Layer 43: the law of DiffKeys. -/
namespace Go.Proofs.YtoaboklckkcjcaaGreat.dkB
open Go.ChangeShapes Go.WideShapes Go.ChangeAt Go.RowKit
open Go.Proofs.YtoaboklckkcjcaaGreat.base Go.Proofs.YtoaboklckkcjcaaGreat.dfA Go.Proofs.YtoaboklckkcjcaaGreat.treB Go.Proofs.YtoaboklckkcjcaaGreat.treD Go.Proofs.YtoaboklckkcjcaaGreat.treG Go.Proofs.YtoaboklckkcjcaaGreat.treM Go.Proofs.YtoaboklckkcjcaaGreat.treN Go.Proofs.YtoaboklckkcjcaaGreat.treW Go.Proofs.YtoaboklckkcjcaaGreat.eliW Go.Proofs.YtoaboklckkcjcaaGreat.eliA Go.Proofs.YtoaboklckkcjcaaGreat.eliB Go.Proofs.YtoaboklckkcjcaaGreat.eliC Go.Proofs.YtoaboklckkcjcaaGreat.onceBw Go.Proofs.YtoaboklckkcjcaaGreat.onceCw Go.Proofs.YtoaboklckkcjcaaGreat.walkA Go.Proofs.YtoaboklckkcjcaaGreat.walkB Go.Proofs.YtoaboklckkcjcaaGreat.walkC Go.Proofs.YtoaboklckkcjcaaGreat.walkD Go.Proofs.YtoaboklckkcjcaaGreat.walkK Go.Proofs.YtoaboklckkcjcaaGreat.walkM Go.Proofs.YtoaboklckkcjcaaGreat.dkA
set_option linter.unusedVariables false

theorem eq_mov (a b c d : Int) (W : World) : (binOp .eql 79 (.agg #[.int .i64 a, .int .i64 b, .int .i64 c, .int .i64 d]) (.agg #[.int .i64 a, .int .i64 b, .int .i64 c, .int .i64 d])).run Tryz.prog W = .ok (.bool true) W := by
  go_simp
  try simp
theorem spl_one {a b : List Int} {n k : Nat} (h1 : IsSpl a b n) (h2 : IsSpl a b k) : n = k := by
  rcases Nat.lt_trichotomy n k with h | h | h
  · exact absurd (h2.eq n (by have := h2.la; omega) (by have := h2.lb; omega) h) (h1.ne (by have := h2.la; omega) (by have := h2.lb; omega))
  · exact h
  · exact absurd (h1.eq k (by have := h1.la; omega) (by have := h1.lb; omega) h) (h2.ne (by have := h1.la; omega) (by have := h1.lb; omega))
set_option maxRecDepth 100000 in
set_option maxHeartbeats 64000000 in
theorem keys_law (A : Option Addr) (n c : Nat) (l : List Nd) (AH : Option Addr) (nh ch : Nat) (H : List Int) (AG : Option Addr) (ng cg : Nat) (G : List Int) (level host from' : Int) (w : World) (hr : RdN w A l) (hl : l.length ≤ 60) (hcap : l.length ≤ c) (hcap2 : c ≤ 9223372036854775807) (hnm : ∀ j (hj : j < l.length), (l[j]).nm.size ≤ 9223372036854775807)
    (hfew : ∀ W', Calls Tryz.prog 39 #[.slice A n c] W' fun o w' => o = .returned (.slice A l.length c) ∧ Below W'.heap.size W' w')
    (hh : RdI w AH H) (hH : H.length ≤ 30) (hhc : H.length ≤ ch) (hhc2 : ch ≤ 9223372036854775807) (hfh : ∀ W', Calls Tryz.prog 10 #[.slice AH nh ch] W' fun o w' => o = .returned (.slice AH H.length ch) ∧ w' = W')
    (hg : RdI w AG G) (hG : G.length ≤ 30) (hgc : G.length ≤ cg) (hgc2 : cg ≤ 9223372036854775807) (hfg : ∀ W', Calls Tryz.prog 10 #[.slice AG ng cg] W' fun o w' => o = .returned (.slice AG G.length cg) ∧ w' = W')
    (haw : ∀ W, Calls Tryz.prog 37 #[] W fun o w' => o = .returned (.bool true) ∧ Below W.heap.size W w') :
    Calls Tryz.prog 7 #[.slice A n c, .slice AH nh ch, .slice AG ng cg, .int .i64 level, .int .i64 host, .int .u64 from'] w fun o w' => o = .returned (.bool true) ∧ Below w.heap.size w w' := by
  have HMD := Lib.hid (made_any A n c l w hr hl hcap hcap2 hnm hfew)
  have HI := Lib.hid hh
  have GI := Lib.hid hg
  have HAW := Lib.hid haw
  obtain ⟨hl2, hhl⟩ : ∃ hl2, hl2 = H.length := ⟨_, rfl⟩
  have HHL := Lib.hid hhl
  have HFH := Lib.hid (show ∀ W', Calls Tryz.prog 10 #[.slice AH nh ch] W' fun o w' => o = .returned (.slice AH hl2 ch) ∧ w' = W' from by rw [hhl]; exact hfh)
  obtain ⟨gl2, hgl⟩ : ∃ gl2, gl2 = G.length := ⟨_, rfl⟩
  have HGL := Lib.hid hgl
  have HFG := Lib.hid (show ∀ W', Calls Tryz.prog 10 #[.slice AG ng cg] W' fun o w' => o = .returned (.slice AG gl2 cg) ∧ w' = W' from by rw [hgl]; exact hfg)
  rw [← hhl] at hhc
  rw [← hgl] at hgc
  clear hr hl hcap hcap2 hnm hfew hh hfh hhl hg hfg hgl haw
  go_enter Tryz.func7, Tryz.ntmps7
  go_wp2_with fail
  refine HMD.out.mono ?_
  rintro o w1 ⟨T, m, A1, c1, rfl, hT, hrd, hm60, hmc, hmc2, hb1⟩
  have B1 := Lib.hid hb1
  have HT1 := Lib.hid hT
  have HF := Lib.hid (fine_of hT.good)
  have HV := Lib.hid (heavy_of hT.good)
  have I1 := Lib.hid (show RdI w1 AH H from HI.out.below hb1)
  have G1 := Lib.hid (show RdI w1 AG G from GI.out.below hb1)
  have HNEW := Lib.hid (eliA.new_any hT hm60 AH ch H I1.out (by omega) (by rw [← HHL.out]; exact hhc) hhc2)
  rw [← HHL.out] at HNEW
  have HM60 := Lib.hid hm60
  clear hT hrd hb1
  go_wp2_with fail
  refine (HFH.out _).mono ?_
  rintro o w2 ⟨rfl, rfl⟩
  go_wp2_with fail
  refine HNEW.out.mono ?_
  rintro o w3 ⟨rfl, hs3, hz3⟩
  have B3 := Lib.hid (B1.out.trans (hs3.bel.mono B1.out.size))
  obtain ⟨S, hS⟩ : ∃ S, S = w2.heap.size + 1 := ⟨_, rfl⟩
  obtain ⟨q0, hq0⟩ : ∃ q, q = w2.heap.size := ⟨_, rfl⟩
  have S3 := Lib.hid (show SetOk w3 S T q0 m (F m H) from by rw [hS, hq0]; exact setOk_of hs3 HT1.out)
  have G3 := Lib.hid (show RdI w3 AG G from G1.out.below hs3.bel)
  have HT3 := Lib.hid (HT1.out.below hs3.bel)
  have HNEW2 := Lib.hid (eliA.new_any HT3.out hm60 AG cg G G3.out (by omega) (by rw [← HGL.out]; exact hgc) hgc2)
  rw [← HGL.out] at HNEW2
  rw [← hS]
  clear hs3 hz3 hS hq0 HMD HNEW
  go_wp2_with fail
  refine (HFG.out _).mono ?_
  rintro o w4 ⟨rfl, rfl⟩
  go_wp2_with fail
  refine HNEW2.out.mono ?_
  rintro o z ⟨rfl, hs4, hz4⟩
  have BZ := Lib.hid (B3.out.trans (hs4.bel.mono B3.out.size))
  obtain ⟨S2, hS2⟩ : ∃ S, S = w4.heap.size + 1 := ⟨_, rfl⟩
  obtain ⟨q2, hq2⟩ : ∃ q, q = w4.heap.size := ⟨_, rfl⟩
  have SX := Lib.hid (show SetOk z S2 T q2 m (F m G) from by rw [hS2, hq2]; exact setOk_of hs4 HT3.out)
  have SZ := Lib.hid (S3.out.below hs4.bel)
  rw [← hS2]
  clear hs4 hz4 hS2 hq2 HNEW2
  obtain ⟨g, hg⟩ : ∃ g, g = z.heap.size := ⟨_, rfl⟩
  obtain ⟨w5, hw5⟩ : ∃ w5, w5 = z.alloc (.cells #[.int .u32 0, .int .i32 0, .int .u32 0, .slice none 0 0, .int .i64 140, .int .u64 3] 51) := ⟨_, rfl⟩
  have HW5 := Lib.hid (show WSt z g 140 3 w5 from ⟨.inl (by rw [hw5, hg]; exact Blk.new z _ _), by rw [hw5]; exact (Below.refl _ _).alloc (Nat.le_refl _) _, by omega⟩)
  have HFI := Lib.hid (F_in HF.out HV.out hm60 H)
  have HFI2 := Lib.hid (F_in HF.out HV.out hm60 G)
  have HKY := Lib.hid (fun V (hV : WSt z g 140 3 V) keys n hn hk => keys_any SZ.out SX.out hV hm60 hm60 HFI.out HFI2.out level host from' keys n hn hk)
  have HPT := Lib.hid (fun V (hV : WSt z g 140 3 V) => part_any SZ.out SX.out hV HFI.out HFI2.out host from')
  have HD1 := Lib.hid (fun V (hV : WSt z g 140 3 V) => down_any SZ.out hV HFI.out host from')
  have HD2 := Lib.hid (fun V (hV : WSt z g 140 3 V) => down_any SX.out hV HFI2.out host from')
  have HH1 := Lib.hid (fun V (hV : WSt z g 140 3 V) k => host_w SZ.out hV hm60 HFI.out level (keyZ from' k))
  have HH2 := Lib.hid (fun V (hV : WSt z g 140 3 V) k => host_w SX.out hV hm60 HFI2.out level (keyZ from' k))
  obtain ⟨p, hp⟩ : ∃ p, p = fun i : Nat => hostW m (F m H) 3 140 level (keyZ from' i) := ⟨_, rfl⟩
  obtain ⟨q, hq⟩ : ∃ q, q = fun i : Nat => hostW m (F m G) 3 140 level (keyZ from' i) := ⟨_, rfl⟩
  have HP := Lib.hid (show ∀ V, WSt z g 140 3 V → ∀ k : Nat, Calls Tryz.prog 21 #[.pointer (some ⟨g, 0, none⟩), .pointer (some ⟨S, 0, none⟩), .int .i64 level, .int .u64 (keyZ from' k)] V (WPost z g 140 3 (.int .i64 (p k)) V) from fun V hV k => by rw [hp]; exact HH1.out V hV k)
  have HQ := Lib.hid (show ∀ V, WSt z g 140 3 V → ∀ k : Nat, Calls Tryz.prog 21 #[.pointer (some ⟨g, 0, none⟩), .pointer (some ⟨S2, 0, none⟩), .int .i64 level, .int .u64 (keyZ from' k)] V (WPost z g 140 3 (.int .i64 (q k)) V) from fun V hV k => by rw [hq]; exact HH2.out V hV k)
  rw [← hp, ← hq] at HKY
  obtain ⟨c1, hc1⟩ : ∃ c : Int, c = ((cntF (fun i => p i != q i) 40 : Nat) : Int) := ⟨_, rfl⟩
  obtain ⟨c2, hc2⟩ : ∃ c : Int, c = ((cntF (fun i => p i != q i && q i == host) 40 : Nat) : Int) := ⟨_, rfl⟩
  obtain ⟨c3, hc3⟩ : ∃ c : Int, c = ((cntF (fun i => p i != q i && p i == host) 40 : Nat) : Int) := ⟨_, rfl⟩
  have HC40 := Lib.hid (show movP p q host 40 40 = #[.int .i64 40, .int .i64 c1, .int .i64 c2, .int .i64 c3] from by rw [hc1, hc2, hc3]; rfl)
  have HK40 := Lib.hid (show Calls Tryz.prog 34 #[.pointer (some ⟨g, 0, none⟩), .pointer (some ⟨S, 0, none⟩), .pointer (some ⟨S2, 0, none⟩), .int .i64 level, .int .i64 host, .int .u64 from', .int .i64 40] w5 (WPost z g 140 3 (.agg #[.int .i64 40, .int .i64 c1, .int .i64 c2, .int .i64 c3]) w5) from by rw [hc1, hc2, hc3]; exact HKY.out w5 HW5.out 40 40 (by omega) (by decide))
  have HK0 := Lib.hid (show ∀ V, WSt z g 140 3 V → Calls Tryz.prog 34 #[.pointer (some ⟨g, 0, none⟩), .pointer (some ⟨S, 0, none⟩), .pointer (some ⟨S2, 0, none⟩), .int .i64 level, .int .i64 host, .int .u64 from', .int .i64 (-1)] V (WPost z g 140 3 (.agg #[.int .i64 0, .int .i64 0, .int .i64 0, .int .i64 0]) V) from fun V hV => HKY.out V hV (-1) 0 (by omega) (by decide))
  have HGE := Lib.hid hg
  have E5 := Lib.hid hw5
  clear hp hq hc1 hc2 hc3 hg hw5 HH1 HH2 HKY
  go_wp2_with fail
  rw [← HGE.out, ← E5.out]
  refine HK40.out.mono ?_
  rintro o w6 ⟨rfl, hw6, _⟩
  have HW6 := Lib.hid hw6
  have HG := Lib.hid hw6.lt
  have HZ := Lib.hid hw6.bel.size
  clear hw6
  go_wp2_with fail
  obtain ⟨w0, hw0⟩ : ∃ w0, w0 = (w6.alloc (.cells #[.int .i64 40, .int .i64 c1, .int .i64 c2, .int .i64 c3] 79)).alloc (.cells #[.int .i64 40, .int .i64 0, .int .i64 0, .int .i64 0] 79) := ⟨_, rfl⟩
  have HB0 := Lib.hid (show Below w6.heap.size w6 w0 from by rw [hw0]; exact ((Below.refl w6.heap.size w6).alloc (Nat.le_refl _) _).alloc (by simp) _)
  have HW0 := Lib.hid (HW6.out.below HB0.out)
  have HA0 := Lib.hid (asideB (g := g) HB0.out)
  have HR0 := Lib.hid (show Blk w0 w6.heap.size 79 #[.int .i64 40, .int .i64 c1, .int .i64 c2, .int .i64 c3] from by rw [hw0]; exact (Blk.new w6 _ _).alloc _)
  have HM0 := Lib.hid (show Blk w0 (w6.heap.size + 1) 79 (movP p q host 40 0) from by
    have e := Blk.new (w6.alloc (.cells #[.int .i64 40, .int .i64 c1, .int .i64 c2, .int .i64 c3] 79)) 79 #[.int .i64 40, .int .i64 0, .int .i64 0, .int .i64 0]
    rw [show (w6.alloc (.cells #[.int .i64 40, .int .i64 c1, .int .i64 c2, .int .i64 c3] 79)).heap.size = w6.heap.size + 1 by simp] at e
    rw [hw0]
    exact e)
  obtain ⟨r, hr⟩ : ∃ r, r = w6.heap.size := ⟨_, rfl⟩
  have HGR := Lib.hid (show g ≠ r ∧ g ≠ r + 1 ∧ z.heap.size ≤ r from by have := HG.out; have := HZ.out; omega)
  have HRR := Lib.hid hr
  rw [← hw0]
  rw [← hr] at HR0 HM0 ⊢
  clear hw0 hr
  go_loopw [20] (fun i wr => ∃ k : Nat, i = .int .i64 k ∧ k ≤ 40 ∧ Hid (Blk wr (r + 1) 79 (movP p q host 40 k)) ∧ Hid (Blk wr r 79 #[.int .i64 40, .int .i64 c1, .int .i64 c2, .int .i64 c3]) ∧ Hid (WSt z g 140 3 wr) ∧ Hid (AsideG g w6 wr)) (fun i _ => 40 - (intOf i).toNat)
  case atStart => exact ⟨0, rfl, by omega, HM0, HR0, HW0, HA0⟩
  case round =>
    obtain ⟨k, rfl, hk, HM, HR, HWr, HAr⟩ := hrel
    by_cases hkn : k < 40
    · have t1 : decide ((k : Int) < 40) = true := decide_eq_true (by omega)
      have HP1 := Lib.hid (fun V hV => HP.out V hV k)
      have HQ1 := Lib.hid (fun V hV => HQ.out V hV k)
      have hkz : keyZ from' k = IntKind.u64.wrap (from' + (k : Int)) := rfl
      have wku : IntKind.u64.wrap (k : Int) = (k : Int) := by rw [IntKind.wrap_u64]; omega
      obtain ⟨kz, hkz2⟩ : ∃ kz, kz = keyZ from' k := ⟨_, rfl⟩
      rw [← hkz2] at HP1 HQ1 hkz
      have hkz3 := hkz.symm
      have HPK := Lib.hid (show p k = p k from rfl)
      obtain ⟨x, hx⟩ : ∃ x, x = p k := ⟨_, rfl⟩
      obtain ⟨y, hy⟩ : ∃ y, y = q k := ⟨_, rfl⟩
      rw [← hx] at HP1
      rw [← hy] at HQ1
      have HX := Lib.hid hx
      have HY := Lib.hid hy
      obtain ⟨ca, hca⟩ : ∃ c, c = cntF (fun i => p i != q i) k := ⟨_, rfl⟩
      obtain ⟨ct, hct⟩ : ∃ c, c = cntF (fun i => p i != q i && q i == host) k := ⟨_, rfl⟩
      obtain ⟨cf, hcf⟩ : ∃ c, c = cntF (fun i => p i != q i && p i == host) k := ⟨_, rfl⟩
      have hb1 : ca ≤ 1000 := by have := cntF_le (fun i => p i != q i) k; omega
      have hb2 : ct ≤ 1000 := by have := cntF_le (fun i => p i != q i && q i == host) k; omega
      have hb3 : cf ≤ 1000 := by have := cntF_le (fun i => p i != q i && p i == host) k; omega
      have HMC := Lib.hid (show Blk wr (r + 1) 79 #[.int .i64 40, .int .i64 (ca : Int), .int .i64 (ct : Int), .int .i64 (cf : Int)] from by rw [hca, hct, hcf]; exact HM.out)
      have HNX := Lib.hid (show movP p q host 40 (k + 1) = #[.int .i64 40, .int .i64 ((ca + (if (x != y) = true then 1 else 0) : Nat) : Int), .int .i64 ((ct + (if (x != y && y == host) = true then 1 else 0) : Nat) : Int), .int .i64 ((cf + (if (x != y && x == host) = true then 1 else 0) : Nat) : Int)] from by rw [hca, hct, hcf, hx, hy]; rfl)
      clear hkz hkz2 hx hy hca hct hcf HPK
      go_wp2_with fail
      refine (HP1.out wr HWr.out).mono ?_
      rintro o w1 ⟨rfl, hw1, ha1⟩
      have HW1 := Lib.hid hw1
      have HM1 := Lib.hid (ha1.blk HMC.out (Ne.symm HGR.out.2.1))
      have HR1 := Lib.hid (ha1.blk HR.out (Ne.symm HGR.out.1))
      have HA1 := Lib.hid (HAr.out.trans ha1)
      have HQ2 := Lib.hid (HQ1.out w1 hw1)
      clear hw1 ha1
      go_wp2_with fail
      refine HQ2.out.mono ?_
      rintro o w2 ⟨rfl, hw2, ha2⟩
      have HW2 := Lib.hid hw2
      have HM2 := Lib.hid (ha2.blk HM1.out (Ne.symm HGR.out.2.1))
      have HR2 := Lib.hid (ha2.blk HR1.out (Ne.symm HGR.out.1))
      have HA2 := Lib.hid (HA1.out.trans ha2)
      clear hw2 ha2
      have hty : 79 ≠ 24 := by decide
      cases hxy : (x == y) with
      | true =>
        have HNX2 := Lib.hid (show movP p q host 40 (k + 1) = #[.int .i64 40, .int .i64 (ca : Int), .int .i64 (ct : Int), .int .i64 (cf : Int)] from by rw [HNX.out]; simp [bne, hxy])
        go_wp2_with fail
        go_roundw
        case rel => exact ⟨k + 1, by go_num, by omega, Lib.hid (by rw [HNX2.out]; exact HM2.out), HR2, HW2, HA2⟩
        case measure => simp [intOf]; omega
      | false =>
        have d1 : w2.cell? ⟨r + 1, 1, none⟩ = some (.int .i64 (ca : Int)) := HM2.out.cell 1
        have d2 : w2.cell? ⟨r + 1, 2, none⟩ = some (.int .i64 (ct : Int)) := HM2.out.cell 2
        have d3 : w2.cell? ⟨r + 1, 3, none⟩ = some (.int .i64 (cf : Int)) := HM2.out.cell 3
        have f1 : w2.frozen? ⟨r + 1, 1, none⟩ = false := HM2.out.frozen 1
        have f2 : w2.frozen? ⟨r + 1, 2, none⟩ = false := HM2.out.frozen 2
        have f3 : w2.frozen? ⟨r + 1, 3, none⟩ = false := HM2.out.frozen 3
        have wa : IntKind.i64.wrap ((ca : Int) + 1) = (ca : Int) + 1 := IntWalk.i64_in _ (by omega)
        have wt : IntKind.i64.wrap ((ct : Int) + 1) = (ct : Int) + 1 := IntWalk.i64_in _ (by omega)
        have wf : IntKind.i64.wrap ((cf : Int) + 1) = (cf : Int) + 1 := IntWalk.i64_in _ (by omega)
        have KB1 := Lib.hid (show Blk (w2.setCell ⟨r + 1, 1, none⟩ (.int .i64 ((ca : Int) + 1))) (r + 1) 79 #[.int .i64 40, .int .i64 ((ca : Int) + 1), .int .i64 (ct : Int), .int .i64 (cf : Int)] from HM2.out.set_ 1 _)
        have KR1 := Lib.hid (show Blk (w2.setCell ⟨r + 1, 1, none⟩ (.int .i64 ((ca : Int) + 1))) r 79 #[.int .i64 40, .int .i64 c1, .int .i64 c2, .int .i64 c3] from HR2.out.far (by show r ≠ r + 1; omega) _)
        have KW1 := Lib.hid (wst_put HW2.out HM2.out hty (Ne.symm HGR.out.2.1) (by have := HGR.out; omega) 1 (.int .i64 ((ca : Int) + 1)))
        have KA1 := Lib.hid (HA2.out.new ⟨r + 1, 1, none⟩ (by rw [HRR.out]; show w6.heap.size ≤ w6.heap.size + 1; omega) (.int .i64 ((ca : Int) + 1)))
        cases hyh : (y == host) with
        | true =>
          cases hxh : (x == host) with
          | true =>
            have KB2 := Lib.hid (show Blk ((w2.setCell ⟨r + 1, 1, none⟩ (.int .i64 ((ca : Int) + 1))).setCell ⟨r + 1, 2, none⟩ (.int .i64 ((ct : Int) + 1))) (r + 1) 79 #[.int .i64 40, .int .i64 ((ca : Int) + 1), .int .i64 ((ct : Int) + 1), .int .i64 (cf : Int)] from KB1.out.set_ 2 _)
            have KR2 := Lib.hid (show Blk ((w2.setCell ⟨r + 1, 1, none⟩ (.int .i64 ((ca : Int) + 1))).setCell ⟨r + 1, 2, none⟩ (.int .i64 ((ct : Int) + 1))) r 79 #[.int .i64 40, .int .i64 c1, .int .i64 c2, .int .i64 c3] from KR1.out.far (by show r ≠ r + 1; omega) _)
            have KW2 := Lib.hid (wst_put KW1.out KB1.out hty (Ne.symm HGR.out.2.1) (by have := HGR.out; omega) 2 (.int .i64 ((ct : Int) + 1)))
            have KA2 := Lib.hid (KA1.out.new ⟨r + 1, 2, none⟩ (by rw [HRR.out]; show w6.heap.size ≤ w6.heap.size + 1; omega) (.int .i64 ((ct : Int) + 1)))
            have KB3 := Lib.hid (show Blk (((w2.setCell ⟨r + 1, 1, none⟩ (.int .i64 ((ca : Int) + 1))).setCell ⟨r + 1, 2, none⟩ (.int .i64 ((ct : Int) + 1))).setCell ⟨r + 1, 3, none⟩ (.int .i64 ((cf : Int) + 1))) (r + 1) 79 #[.int .i64 40, .int .i64 ((ca : Int) + 1), .int .i64 ((ct : Int) + 1), .int .i64 ((cf : Int) + 1)] from KB2.out.set_ 3 _)
            have KR3 := Lib.hid (show Blk (((w2.setCell ⟨r + 1, 1, none⟩ (.int .i64 ((ca : Int) + 1))).setCell ⟨r + 1, 2, none⟩ (.int .i64 ((ct : Int) + 1))).setCell ⟨r + 1, 3, none⟩ (.int .i64 ((cf : Int) + 1))) r 79 #[.int .i64 40, .int .i64 c1, .int .i64 c2, .int .i64 c3] from KR2.out.far (by show r ≠ r + 1; omega) _)
            have KW3 := Lib.hid (wst_put KW2.out KB2.out hty (Ne.symm HGR.out.2.1) (by have := HGR.out; omega) 3 (.int .i64 ((cf : Int) + 1)))
            have KA3 := Lib.hid (KA2.out.new ⟨r + 1, 3, none⟩ (by rw [HRR.out]; show w6.heap.size ≤ w6.heap.size + 1; omega) (.int .i64 ((cf : Int) + 1)))
            have HNX2 := Lib.hid (show movP p q host 40 (k + 1) = #[.int .i64 40, .int .i64 ((ca : Int) + 1), .int .i64 ((ct : Int) + 1), .int .i64 ((cf : Int) + 1)] from by rw [HNX.out]; simp [bne, hxy, hyh, hxh])
            go_wp2_with fail
            go_roundw
            case rel => exact ⟨k + 1, by go_num, by omega, Lib.hid (by rw [HNX2.out]; exact KB3.out), KR3, KW3, KA3⟩
            case measure => simp [intOf]; omega
          | false =>
            have KB2 := Lib.hid (show Blk ((w2.setCell ⟨r + 1, 1, none⟩ (.int .i64 ((ca : Int) + 1))).setCell ⟨r + 1, 2, none⟩ (.int .i64 ((ct : Int) + 1))) (r + 1) 79 #[.int .i64 40, .int .i64 ((ca : Int) + 1), .int .i64 ((ct : Int) + 1), .int .i64 (cf : Int)] from KB1.out.set_ 2 _)
            have KR2 := Lib.hid (show Blk ((w2.setCell ⟨r + 1, 1, none⟩ (.int .i64 ((ca : Int) + 1))).setCell ⟨r + 1, 2, none⟩ (.int .i64 ((ct : Int) + 1))) r 79 #[.int .i64 40, .int .i64 c1, .int .i64 c2, .int .i64 c3] from KR1.out.far (by show r ≠ r + 1; omega) _)
            have KW2 := Lib.hid (wst_put KW1.out KB1.out hty (Ne.symm HGR.out.2.1) (by have := HGR.out; omega) 2 (.int .i64 ((ct : Int) + 1)))
            have KA2 := Lib.hid (KA1.out.new ⟨r + 1, 2, none⟩ (by rw [HRR.out]; show w6.heap.size ≤ w6.heap.size + 1; omega) (.int .i64 ((ct : Int) + 1)))
            have HNX2 := Lib.hid (show movP p q host 40 (k + 1) = #[.int .i64 40, .int .i64 ((ca : Int) + 1), .int .i64 ((ct : Int) + 1), .int .i64 ((cf : Int))] from by rw [HNX.out]; simp [bne, hxy, hyh, hxh])
            go_wp2_with fail
            go_roundw
            case rel => exact ⟨k + 1, by go_num, by omega, Lib.hid (by rw [HNX2.out]; exact KB2.out), KR2, KW2, KA2⟩
            case measure => simp [intOf]; omega
        | false =>
          cases hxh : (x == host) with
          | true =>
            have KB3 := Lib.hid (show Blk ((w2.setCell ⟨r + 1, 1, none⟩ (.int .i64 ((ca : Int) + 1))).setCell ⟨r + 1, 3, none⟩ (.int .i64 ((cf : Int) + 1))) (r + 1) 79 #[.int .i64 40, .int .i64 ((ca : Int) + 1), .int .i64 (ct : Int), .int .i64 ((cf : Int) + 1)] from KB1.out.set_ 3 _)
            have KR3 := Lib.hid (show Blk ((w2.setCell ⟨r + 1, 1, none⟩ (.int .i64 ((ca : Int) + 1))).setCell ⟨r + 1, 3, none⟩ (.int .i64 ((cf : Int) + 1))) r 79 #[.int .i64 40, .int .i64 c1, .int .i64 c2, .int .i64 c3] from KR1.out.far (by show r ≠ r + 1; omega) _)
            have KW3 := Lib.hid (wst_put KW1.out KB1.out hty (Ne.symm HGR.out.2.1) (by have := HGR.out; omega) 3 (.int .i64 ((cf : Int) + 1)))
            have KA3 := Lib.hid (KA1.out.new ⟨r + 1, 3, none⟩ (by rw [HRR.out]; show w6.heap.size ≤ w6.heap.size + 1; omega) (.int .i64 ((cf : Int) + 1)))
            have HNX2 := Lib.hid (show movP p q host 40 (k + 1) = #[.int .i64 40, .int .i64 ((ca : Int) + 1), .int .i64 ((ct : Int)), .int .i64 ((cf : Int) + 1)] from by rw [HNX.out]; simp [bne, hxy, hyh, hxh])
            go_wp2_with fail
            go_roundw
            case rel => exact ⟨k + 1, by go_num, by omega, Lib.hid (by rw [HNX2.out]; exact KB3.out), KR3, KW3, KA3⟩
            case measure => simp [intOf]; omega
          | false =>
            have HNX2 := Lib.hid (show movP p q host 40 (k + 1) = #[.int .i64 40, .int .i64 ((ca : Int) + 1), .int .i64 ((ct : Int)), .int .i64 ((cf : Int))] from by rw [HNX.out]; simp [bne, hxy, hyh, hxh])
            go_wp2_with fail
            go_roundw
            case rel => exact ⟨k + 1, by go_num, by omega, Lib.hid (by rw [HNX2.out]; exact KB1.out), KR1, KW1, KA1⟩
            case measure => simp [intOf]; omega
    · have t1 : decide ((k : Int) < 40) = false := decide_eq_false (by omega)
      obtain rfl : k = 40 := by omega
      have HMF := Lib.hid (show Blk wr (r + 1) 79 #[.int .i64 40, .int .i64 c1, .int .i64 c2, .int .i64 c3] from by rw [← HC40.out]; exact HM.out)
      have HPT1 := Lib.hid (HPT.out wr HWr.out)
      obtain ⟨l1, hl1⟩ : ∃ l, l = downW m (F m H) 3 from' host := ⟨_, rfl⟩
      obtain ⟨l2, hl2⟩ : ∃ l, l = downW m (F m G) 3 from' host := ⟨_, rfl⟩
      rw [← hl1] at HPT1 HD1
      rw [← hl2] at HPT1 HD2
      clear hl1 hl2
      go_wp2_with fail
      refine HPT1.out.mono ?_
      rintro o w7 ⟨u1, u2, n1, rfl, hu1, hu2, hn1, hw7, ha7⟩
      have HU1 := Lib.hid hu1
      have HU2 := Lib.hid hu2
      have HN1 := Lib.hid hn1
      have HW7 := Lib.hid hw7
      have HM7 := Lib.hid (ha7.blk HMF.out (Ne.symm HGR.out.2.1))
      have HR7 := Lib.hid (ha7.blk HR.out (Ne.symm HGR.out.1))
      have HGW := Lib.hid (show g < wr.heap.size from HWr.out.lt)
      clear hu1 hu2 hn1 hw7 ha7
      go_wp2_with fail
      refine (HD1.out w7 HW7.out).mono ?_
      rintro o w8 ⟨v1, rfl, hv1, hw8, ha8⟩
      have HV1 := Lib.hid hv1
      have HW8 := Lib.hid hw8
      have HM8 := Lib.hid (ha8.blk HM7.out (Ne.symm HGR.out.2.1))
      have HR8 := Lib.hid (ha8.blk HR7.out (Ne.symm HGR.out.1))
      have HU18 := Lib.hid (own_aside HU1.out ha8 HGW.out)
      have HU28 := Lib.hid (own_aside HU2.out ha8 HGW.out)
      clear hv1 hw8 ha8
      go_wp2_with fail
      refine (HD2.out w8 HW8.out).mono ?_
      rintro o w9 ⟨v2, rfl, hv2, hw9, ha9⟩
      have HV2 := Lib.hid hv2
      have HW9 := Lib.hid hw9
      have HM9 := Lib.hid (ha9.blk HM8.out (Ne.symm HGR.out.2.1))
      have HR9 := Lib.hid (ha9.blk HR8.out (Ne.symm HGR.out.1))
      have HU19 := Lib.hid (own_aside HU18.out ha9 HGW.out)
      have HU29 := Lib.hid (own_aside HU28.out ha9 HGW.out)
      have HV19 := Lib.hid (own_aside HV1.out ha9 HW7.out.lt)
      have HSM1 := Lib.hid (lsame_any u1 v1 l1 w9 (read_own HU19.out) (read_own HV19.out))
      have d0 : w9.cell? ⟨r, 0, none⟩ = some (.int .i64 40) := HR9.out.cell 0
      have d1 : w9.cell? ⟨r, 1, none⟩ = some (.int .i64 c1) := HR9.out.cell 1
      have d2 : w9.cell? ⟨r, 2, none⟩ = some (.int .i64 c2) := HR9.out.cell 2
      have d3 : w9.cell? ⟨r, 3, none⟩ = some (.int .i64 c3) := HR9.out.cell 3
      have e0 : w9.cell? ⟨r + 1, 0, none⟩ = some (.int .i64 40) := HM9.out.cell 0
      have e1 : w9.cell? ⟨r + 1, 1, none⟩ = some (.int .i64 c1) := HM9.out.cell 1
      have e2 : w9.cell? ⟨r + 1, 2, none⟩ = some (.int .i64 c2) := HM9.out.cell 2
      have e3 : w9.cell? ⟨r + 1, 3, none⟩ = some (.int .i64 c3) := HM9.out.cell 3
      have hq1 := fun W => eq_mov 40 c1 c2 c3 W
      have hq2 := fun W => eq_mov 0 0 0 0 W
      clear hv2 hw9 ha9
      go_wp2_with fail
      refine HSM1.out.mono ?_
      rintro o w10 ⟨rfl, hb10⟩
      have HW10 := Lib.hid (HW9.out.below hb10)
      have HV10 := Lib.hid (HV19.out.below hb10)
      have HV20 := Lib.hid (HV2.out.below hb10)
      have HSM2 := Lib.hid (lsame_any u2 v2 l2 w10 (read_own (HU29.out.below hb10)) (read_own HV20.out))
      clear hb10
      go_wp2_with fail
      refine HSM2.out.mono ?_
      rintro o w11 ⟨rfl, hb11⟩
      have HW11 := Lib.hid (HW10.out.below hb11)
      have HSP := Lib.hid (split_any v1 v2 l1 l2 w11 (read_own (HV10.out.below hb11)) (read_own (HV20.out.below hb11)))
      clear hb11
      go_wp2_with fail
      refine HSP.out.mono ?_
      rintro o w12 ⟨n2, rfl, hn2, hb12⟩
      have HW12 := Lib.hid (HW11.out.below hb12)
      obtain rfl : n2 = n1 := spl_one hn2 HN1.out
      have x1 : ((n2 : Int) == (n2 : Int)) = true := by simp
      have HKZ := Lib.hid (HK0.out w12 HW12.out)
      clear hn2 hb12
      go_wp2_with fail
      refine HKZ.out.mono ?_
      rintro o w13 ⟨rfl, hw13, _⟩
      have HW13 := Lib.hid hw13
      have HAW13 := Lib.hid (HAW.out w13)
      clear hw13
      go_wp2_with fail
      refine HAW13.out.mono ?_
      rintro o w14 ⟨rfl, hb14⟩
      have HB14 := Lib.hid (BZ.out.trans ((HW13.out.below hb14).bel.mono BZ.out.size))
      clear hb14
      go_wp2_with fail
      go_ret
      exact ⟨rfl, HB14.out⟩
end Go.Proofs.YtoaboklckkcjcaaGreat.dkB
