/- Layer 36: a file's bytes, read again. -/
import Derived.Test.YtmchedjeohhpcaaPcapU
import Derived.Test.YtmchedjeohhpcaaPcapX
import Derived.Deep.QuietTactic
import Derived.BigQuiet
import Derived.Deep.RegionHeldLaw
import Derived.Deep.DeepCutAuto
namespace Go.Proofs.Ytmchedjeohhpcaa.pcapY
open Go.ChangeShapes Go.WideShapes Go.ChangeAt Go.RowKit
open Go.Proofs.Ytmchedjeohhpcaa.base Go.Proofs.Ytmchedjeohhpcaa.pcapA Go.Proofs.Ytmchedjeohhpcaa.pcapB Go.Proofs.Ytmchedjeohhpcaa.pcapC Go.Proofs.Ytmchedjeohhpcaa.pcapD Go.Proofs.Ytmchedjeohhpcaa.pcapE Go.Proofs.Ytmchedjeohhpcaa.pcapF Go.Proofs.Ytmchedjeohhpcaa.pcapG Go.Proofs.Ytmchedjeohhpcaa.pcapH Go.Proofs.Ytmchedjeohhpcaa.pcapI Go.Proofs.Ytmchedjeohhpcaa.pcapJ Go.Proofs.Ytmchedjeohhpcaa.pcapK Go.Proofs.Ytmchedjeohhpcaa.pcapL Go.Proofs.Ytmchedjeohhpcaa.pcapM Go.Proofs.Ytmchedjeohhpcaa.pcapN Go.Proofs.Ytmchedjeohhpcaa.pcapO Go.Proofs.Ytmchedjeohhpcaa.pcapP Go.Proofs.Ytmchedjeohhpcaa.pcapQ Go.Proofs.Ytmchedjeohhpcaa.pcapR Go.Proofs.Ytmchedjeohhpcaa.pcapS Go.Proofs.Ytmchedjeohhpcaa.pcapT Go.Proofs.Ytmchedjeohhpcaa.pcapU Go.Proofs.Ytmchedjeohhpcaa.pcapX
set_option linter.unusedVariables false

theorem fulls_at (m : List Rc) (j : Nat) (hj : j < m.length) (h : (m[j]).n = (m[j]).sz) : (fulls m)[(fulls (m.take j)).length]? = some (m[j]).bs := by
  have e : fulls m = fulls (m.take (j + 1)) ++ fulls (m.drop (j + 1)) := by
    unfold fulls
    rw [← List.map_append, ← List.filter_append, List.take_append_drop]
  rw [e, fulls_yes m j hj h, List.append_assoc, List.getElem?_append_right (Nat.le_refl _), Nat.sub_self]
  rfl
theorem fulls_le (m : List Rc) (j : Nat) : (fulls (m.take j)).length ≤ j := by
  unfold fulls
  rw [List.length_map]
  exact Nat.le_trans (List.length_filter_le _ _) (by rw [List.length_take]; omega)
set_option maxHeartbeats 4000000 in
set_option maxRecDepth 100000 in
theorem puts_any (big : Bool) (sn link : Nat) (A : Option Addr) (c : Nat) (l : List Rc) (w : World) (h1 : sn < 4294967296) (h2 : link < 4294967296) (hr : RdR w A l) (hin : ∀ e ∈ l, InR w e) (hc1 : l.length ≤ c) (hc2 : c ≤ 9223372036854775807) :
    Calls Try.prog 3 #[.agg #[.bool big, .int .u32 (sn : Int), .int .u32 (link : Int), .slice A l.length c]] w fun o w' => o = .returned (.bool true) ∧ Below w.heap.size w w' := by
  have HFO := Lib.hid (fewOk hin)
  have BA : Below w.heap.size w (w.alloc (.cells #[.bool big, .int .u32 (sn : Int), .int .u32 (link : Int), .slice A l.length c] 25)) := (Below.refl w.heap.size w).alloc (Nat.le_refl _) _
  have inA : ∀ e ∈ l, InR (w.alloc (.cells #[.bool big, .int .u32 (sn : Int), .int .u32 (link : Int), .slice A l.length c] 25)) e := fun e he => by
    have h := hin e he
    exact ⟨h.sec, h.mic, h.sz, h.nc, h.cm, h.none, (h.row.below BA).more BA.size, h.len, h.byte⟩
  have HFW := Lib.hid (few_any big sn link A c l _ (hr.below BA) inA hc1 hc2)
  have K0 := Blk.new w 25 #[.bool big, .int .u32 (sn : Int), .int .u32 (link : Int), .slice A l.length c]
  obtain ⟨n, hn⟩ : ∃ n, n = l.length := ⟨_, rfl⟩
  obtain ⟨m, hm⟩ : ∃ m, m = fewL l := ⟨_, rfl⟩
  rw [← hm] at HFO HFW
  rw [← hn] at HFW K0 BA ⊢
  have HK0 := Lib.hid K0
  have HBA := Lib.hid BA
  have HSN := Lib.hid h1
  have HLK := Lib.hid h2
  clear hr hin inA hn hm K0 BA hc1 hc2
  go_enter Try.func3, Try.ntmps3
  go_wp2_with fail
  refine HFW.out.mono ?_
  rintro o w2 ⟨A1, c1, rfl, ho2, hb2⟩
  have HKM := Lib.hid (own_cap ho2)
  obtain ⟨k, hk⟩ : ∃ k, k = m.length := ⟨_, rfl⟩
  have HKL := Lib.hid hk
  rw [← hk] at ho2 HKM ⊢
  have KC := HK0.out.below hb2 HK0.out.lt
  have z0 := KC.cell 0
  have z1 := KC.cell 1
  have z2 := KC.cell 2
  have z3 := KC.cell 3
  have y0 := KC.frozen 0
  have y1 := KC.frozen 1
  have y2 := KC.frozen 2
  have y3 := KC.frozen 3
  have o1 := own_setT ho2 KC (by decide) 0 (.bool big)
  have o2 := own_setT o1 (KC.set_ 0 _) (by decide) 1 (.int .u32 (sn : Int))
  have o3 := own_setT o2 ((KC.set_ 0 _).set_ 1 _) (by decide) 2 (.int .u32 (link : Int))
  have o4 := own_setT o3 (((KC.set_ 0 _).set_ 1 _).set_ 2 _) (by decide) 3 (.slice A1 k c1)
  have HO3 := Lib.hid (show ((((w2.setCell ⟨w.heap.size, 0, none⟩ (.bool big)).setCell ⟨w.heap.size, 1, none⟩ (.int .u32 (sn : Int))).setCell ⟨w.heap.size, 2, none⟩ (.int .u32 (link : Int))).setCell ⟨w.heap.size, 3, none⟩ (.slice A1 k c1)).ownsRow (w.alloc (.cells #[.bool big, .int .u32 (sn : Int), .int .u32 (link : Int), .slice A n c] 25)).heap.size 38 4 (.slice A1 k c1) k (flatR m) from o4)
  have HK3 := Lib.hid (show Blk ((((w2.setCell ⟨w.heap.size, 0, none⟩ (.bool big)).setCell ⟨w.heap.size, 1, none⟩ (.int .u32 (sn : Int))).setCell ⟨w.heap.size, 2, none⟩ (.int .u32 (link : Int))).setCell ⟨w.heap.size, 3, none⟩ (.slice A1 k c1)) w.heap.size 25 #[.bool big, .int .u32 (sn : Int), .int .u32 (link : Int), .slice A1 k c1] from (((KC.set_ 0 _).set_ 1 _).set_ 2 _).set_ 3 _)
  have HB3 := Lib.hid (show Below w.heap.size w ((((w2.setCell ⟨w.heap.size, 0, none⟩ (.bool big)).setCell ⟨w.heap.size, 1, none⟩ (.int .u32 (sn : Int))).setCell ⟨w.heap.size, 2, none⟩ (.int .u32 (link : Int))).setCell ⟨w.heap.size, 3, none⟩ (.slice A1 k c1)) from ((((HBA.out.trans (hb2.mono HBA.out.size)).setCell (Nat.le_refl _) _).setCell (Nat.le_refl _) _).setCell (Nat.le_refl _) _).setCell (Nat.le_refl _) _)
  clear ho2 hb2 KC o1 o2 o3 o4 hk
  obtain ⟨w3, hw3⟩ : ∃ w3, w3 = ((((w2.setCell ⟨w.heap.size, 0, none⟩ (.bool big)).setCell ⟨w.heap.size, 1, none⟩ (.int .u32 (sn : Int))).setCell ⟨w.heap.size, 2, none⟩ (.int .u32 (link : Int))).setCell ⟨w.heap.size, 3, none⟩ (.slice A1 k c1)) := ⟨_, rfl⟩
  have HW3 := Lib.hid hw3
  rw [← hw3] at HO3 HK3 HB3
  have hkl := HKL.out
  have hlen20 := HFO.out.len
  have hok := HFO.out.ok
  have HRW := Lib.hid (show ∀ W, Below w3.heap.size w3 W → RdR W A1 m from fun W hb => rd_of_row (own_below HO3.out hb) HKL.out)
  have HHA := Lib.hid (show ∀ W, Below w3.heap.size w3 W → ∀ e ∈ m, Has W e from fun W hb => HFO.out.has (HB3.out.trans (hb.mono HB3.out.size)))
  have hm1 : m.length ≤ c1 := hkl ▸ HKM.out.1
  obtain ⟨z, hz⟩ : ∃ z, z = rightB sn m := ⟨_, rfl⟩
  have HRP0 := Lib.hid (show ∀ W, Below w3.heap.size w3 W → Calls Try.prog 8 #[.agg #[.bool big, .int .u32 (sn : Int), .int .u32 (link : Int), .slice A1 m.length c1]] W fun o w' => o = .returned (.bool z) ∧ Below W.heap.size W w' from fun W hb => by
    rw [hz]
    exact right_any big sn link A1 c1 m W HSN.out (HRW.out W hb) hok (by omega) hm1 HKM.out.2)
  have HLR0 := Lib.hid (show ∀ W, Below w3.heap.size w3 W → Calls Try.prog 9 #[.agg #[.bool big, .int .u32 (sn : Int), .int .u32 (link : Int), .slice A1 m.length c1]] W fun o w' => o = .returned (.bool z) ∧ Below W.heap.size W w' from fun W hb => by
    rw [hz]
    exact lright_any big sn link A1 c1 m W HSN.out (HRW.out W hb) hok HFO.out.n6 (by omega) hm1 HKM.out.2)
  have HBN := Lib.hid (show z = false → Calls Try.prog 7 #[.agg #[.bool big, .int .u32 (sn : Int), .int .u32 (link : Int), .slice A1 m.length c1]] w3 fun o w' => o = .returned (.tuple #[.slice none 0 0, .int .i64 1]) ∧ Below w3.heap.size w3 w' from fun h => bytes_no big sn link A1 c1 m w3 HSN.out (HRW.out w3 (Below.refl _ _)) hok (by omega) hm1 HKM.out.2 (hz ▸ h))
  have HBS := Lib.hid (show z = true → Calls Try.prog 7 #[.agg #[.bool big, .int .u32 (sn : Int), .int .u32 (link : Int), .slice A1 m.length c1]] w3 (BytesPost w3 (headB big sn link ++ bodyB big m)) from fun h => bytes_yes big sn link A1 c1 m w3 HSN.out HLK.out (HRW.out w3 (Below.refl _ _)) hok (HHA.out w3 (Below.refl _ _)) (by omega) hm1 HKM.out.2 (hz ▸ h))
  have HLB0 := Lib.hid (show ∀ W, Below w3.heap.size w3 W → Calls Try.prog 13 #[.agg #[.bool big, .int .u32 (sn : Int), .int .u32 (link : Int), .slice A1 m.length c1]] W (LBytesPost W (headB big sn link ++ bodyB big m)) from fun W hb => lbytes_any big sn link A1 c1 m W HSN.out HLK.out (HRW.out W hb) hok (HHA.out W hb) (by omega) hm1 HKM.out.2)
  have HPK0 := Lib.hid (show ∀ W, Below w3.heap.size w3 W → Calls Try.prog 12 #[.agg #[.bool big, .int .u32 (sn : Int), .int .u32 (link : Int), .slice A1 m.length c1]] W (PkPost m W) from fun W hb => packets_any big sn link A1 c1 m W (HRW.out W hb) hok (HHA.out W hb) (by omega) hm1 HKM.out.2)
  have HFX := Lib.hid (HFO.out.file big HSN.out HLK.out)
  have HLE := Lib.hid (HFO.out.le big sn link)
  obtain ⟨X, hX⟩ : ∃ X, X = headB big sn link ++ bodyB big m := ⟨_, rfl⟩
  rw [← hX] at HBS HLB0 HFX HLE
  have HAW := Lib.hid (fun W => awake_any W)
  have HRZ := Lib.hid hz
  have HK20 := Lib.hid (show k ≤ 20 by omega)
  rw [← hkl] at HRP0 HLR0 HBN HBS HLB0 HPK0
  have HS4 := Lib.hid (show ∀ W : World, Below w3.heap.size w3 W → (W.cell? ⟨w.heap.size, 0, none⟩ = some (.bool big) ∧ W.cell? ⟨w.heap.size, 1, none⟩ = some (.int .u32 (sn : Int)) ∧ W.cell? ⟨w.heap.size, 2, none⟩ = some (.int .u32 (link : Int)) ∧ W.cell? ⟨w.heap.size, 3, none⟩ = some (.slice A1 k c1)) from fun W hW => by
    have kk := HK3.out.below hW HK3.out.lt
    exact ⟨kk.cell 0, kk.cell 1, kk.cell 2, kk.cell 3⟩)
  clear hw3 hX hz hkl hlen20 hok hm1
  go_wp2_with fail
  rw [← HW3.out]
  clear z0 z1 z2 z3 y0 y1 y2 y3 HW3
  cases z with
  | false =>
    refine (HBN.out rfl).mono ?_
    rintro o w4 ⟨rfl, hb4⟩
    have HB4 := Lib.hid hb4
    have HRP := Lib.hid (fun W (h : Below w4.heap.size w4 W) => HRP0.out W (HB4.out.trans (h.mono HB4.out.size)))
    have HLR := Lib.hid (fun W (h : Below w4.heap.size w4 W) => HLR0.out W (HB4.out.trans (h.mono HB4.out.size)))
    have HS4 := Lib.hid (fun W (h : Below w4.heap.size w4 W) => HS4.out W (HB4.out.trans (h.mono HB4.out.size)))
    clear hb4
    go_upto_region 3 with fail
    go_cut [21] (fun v wx => v = .bool false ∧ Hid (Below w4.heap.size w4 wx))
    case first =>
      have s0 := HS4.out w4.drew (Below.refl _ _).drew
      have K2 := Lib.hid ((Below.refl w4.heap.size w4).drew)
      go_region_held3 (fun w' => w'.cell? ⟨w.heap.size, 0, none⟩ = some (.bool big) ∧ w'.cell? ⟨w.heap.size, 1, none⟩ = some (.int .u32 (sn : Int)) ∧ w'.cell? ⟨w.heap.size, 2, none⟩ = some (.int .u32 (link : Int)) ∧ w'.cell? ⟨w.heap.size, 3, none⟩ = some (.slice A1 k c1)) (first | with_reducible assumption | exact HS4.out _ K6.out | exact HS4.out _ K5.out | exact HS4.out _ K2.out)
        (first
          | (go_at_call 8
             (first | (with_reducible refine (HRP.out _ K6.out).mono ?_) | (with_reducible refine (HRP.out _ K2.out).mono ?_))
             rintro o w5 ⟨rfl, hb5⟩
             have K5 := Lib.hid (show Below w4.heap.size w4 w5 from by first | exact K6.out.trans (hb5.mono K6.out.size) | exact K2.out.trans (hb5.mono K2.out.size))
             have s5 := HS4.out w5 K5.out
             clear hb5)
          | (go_at_call 9
             (first | (with_reducible refine (HLR.out _ K5.out).mono ?_) | (with_reducible refine (HLR.out _ K2.out).mono ?_))
             rintro o w6 ⟨rfl, hb6⟩
             have K6 := Lib.hid (show Below w4.heap.size w4 w6 from by first | exact K5.out.trans (hb6.mono K5.out.size) | exact K2.out.trans (hb6.mono K2.out.size))
             have s6 := HS4.out w6 K6.out
             clear hb6))
      all_goals
        go_wp2_with fail
        go_meet
        first
          | exact ⟨rfl, K6⟩
          | exact ⟨rfl, K5⟩
    case rest =>
      obtain ⟨rfl, HKC⟩ := hcut
      obtain ⟨q0, q1, q2, q3⟩ := HS4.out wc HKC.out
      go_wp2_with fail
      refine (HLR.out _ HKC.out).mono ?_
      rintro o w7 ⟨rfl, hb7⟩
      have B7 := Lib.hid (HKC.out.trans (hb7.mono HKC.out.size))
      clear hb7
      go_wp2_with fail
      refine (HAW.out _).mono ?_
      rintro o w8 ⟨rfl, hb8⟩
      have B8 := Lib.hid (HB3.out.trans ((HB4.out.trans ((B7.out.trans (hb8.mono B7.out.size)).mono HB4.out.size)).mono HB3.out.size))
      clear hb8
      go_wp2_with fail
      go_ret
      exact ⟨rfl, B8.out⟩
  | true =>
    refine (HBS.out rfl).mono ?_
    rintro o w4 ⟨v4, rfl, ho4, hb4⟩
    obtain ⟨A4, c4, rfl⟩ := own_slice ho4
    have HB4 := Lib.hid hb4
    have HO4 := Lib.hid ho4
    have HRP := Lib.hid (fun W (h : Below w4.heap.size w4 W) => HRP0.out W (HB4.out.trans (h.mono HB4.out.size)))
    have HLR := Lib.hid (fun W (h : Below w4.heap.size w4 W) => HLR0.out W (HB4.out.trans (h.mono HB4.out.size)))
    have HS4 := Lib.hid (fun W (h : Below w4.heap.size w4 W) => HS4.out W (HB4.out.trans (h.mono HB4.out.size)))
    clear hb4 ho4
    go_upto_region 3 with fail
    go_cut [21] (fun v wx => v = .bool false ∧ Hid (Below w4.heap.size w4 wx))
    case first =>
      have s0 := HS4.out w4.drew (Below.refl _ _).drew
      have K2 := Lib.hid ((Below.refl w4.heap.size w4).drew)
      go_region_held3 (fun w' => w'.cell? ⟨w.heap.size, 0, none⟩ = some (.bool big) ∧ w'.cell? ⟨w.heap.size, 1, none⟩ = some (.int .u32 (sn : Int)) ∧ w'.cell? ⟨w.heap.size, 2, none⟩ = some (.int .u32 (link : Int)) ∧ w'.cell? ⟨w.heap.size, 3, none⟩ = some (.slice A1 k c1)) (first | with_reducible assumption | exact HS4.out _ K6.out | exact HS4.out _ K5.out | exact HS4.out _ K2.out)
        (first
          | (go_at_call 8
             (first | (with_reducible refine (HRP.out _ K6.out).mono ?_) | (with_reducible refine (HRP.out _ K2.out).mono ?_))
             rintro o w5 ⟨rfl, hb5⟩
             have K5 := Lib.hid (show Below w4.heap.size w4 w5 from by first | exact K6.out.trans (hb5.mono K6.out.size) | exact K2.out.trans (hb5.mono K2.out.size))
             have s5 := HS4.out w5 K5.out
             clear hb5)
          | (go_at_call 9
             (first | (with_reducible refine (HLR.out _ K5.out).mono ?_) | (with_reducible refine (HLR.out _ K2.out).mono ?_))
             rintro o w6 ⟨rfl, hb6⟩
             have K6 := Lib.hid (show Below w4.heap.size w4 w6 from by first | exact K5.out.trans (hb6.mono K5.out.size) | exact K2.out.trans (hb6.mono K2.out.size))
             have s6 := HS4.out w6 K6.out
             clear hb6))
      all_goals
        go_wp2_with fail
        go_meet
        first
          | exact ⟨rfl, K6⟩
          | exact ⟨rfl, K5⟩
    case rest =>
      obtain ⟨rfl, HKC⟩ := hcut
      obtain ⟨q0, q1, q2, q3⟩ := HS4.out wc HKC.out
      go_wp2_with fail
      refine (HLR.out _ HKC.out).mono ?_
      rintro o w7 ⟨rfl, hb7⟩
      have B7 := Lib.hid (HKC.out.trans (hb7.mono HKC.out.size))
      have HRD := Lib.hid (read_file big sn link m X A4 _ c4 w7 HFX.out (fun e he => (HFO.out.inr e he).len) rfl HLE.out (own_bounds HO4.out).2.1 (own_bounds HO4.out).2.2 (own_row (own_below HO4.out B7.out)))
      clear hb7 q0 q1 q2 q3
      go_wp2_with fail
      refine HRD.out.mono ?_
      rintro o w6 ⟨hb6, A6, c6, m6, hre, hrd, hhas, hml, hres⟩
      have B6 := Lib.hid (B7.out.trans (hb6.mono B7.out.size))
      rw [← HKL.out] at hres hml
      have hres2 : o = .returned (.tuple #[.agg #[.bool big, .int .u32 (sn : Int), .int .u32 (link : Int), .slice A6 k c6], .int .i64 0]) := by
        rcases hres with ⟨_, h⟩ | ⟨h, _⟩
        · exact h
        · rw [← HRZ.out] at h; cases h
      subst hres2
      have HRD6 := Lib.hid hrd
      have HHS6 := Lib.hid hhas
      have HML := Lib.hid hml
      have HRE6 := Lib.hid hre
      obtain ⟨gb, hgb⟩ : ∃ gb, gb = w6.heap.size := ⟨_, rfl⟩
      have HGK := Lib.hid (show Blk (w6.alloc (.cells #[.bool big, .int .u32 (sn : Int), .int .u32 (link : Int), .slice A6 k c6] 25)) gb 25 #[.bool big, .int .u32 (sn : Int), .int .u32 (link : Int), .slice A6 k c6] from hgb ▸ Blk.new w6 _ _)
      have AL := Lib.hid (show Below w6.heap.size w6 (w6.alloc (.cells #[.bool big, .int .u32 (sn : Int), .int .u32 (link : Int), .slice A6 k c6] 25)) from (Below.refl _ _).alloc (Nat.le_refl _) _)
      have B6a := Lib.hid (B6.out.trans (AL.out.mono B6.out.size))
      have HPK := Lib.hid (HPK0.out _ (HB4.out.trans (B6a.out.mono HB4.out.size)))
      obtain ⟨q0, q1, q2, q3⟩ := HS4.out _ B6a.out
      clear hre hrd hhas hml hres hb6
      go_wp2_with fail
      refine HPK.out.mono ?_
      rintro o w8 ⟨v8, L, rfl, hpk, hLf, hb8⟩
      obtain ⟨A8, c8, rfl⟩ := own_sliceN hpk.row
      have HPK8 := Lib.hid hpk
      have HLF := Lib.hid hLf
      have B8 := Lib.hid (B6a.out.trans (hb8.mono B6a.out.size))
      have HG8 := Lib.hid (HGK.out.below hb8 HGK.out.lt)
      have H68 := Lib.hid (AL.out.trans (hb8.mono AL.out.size))
      have HLL := Lib.hid (show L.length = (fulls m).length from by rw [← hLf, List.length_map])
      clear hpk hLf hb8 q0 q1 q2 q3
      rw [← hgb]
      clear hgb
      go_wp2_with fail
      go_loopw [8, 9] (fun a i wr => ∃ (j : Nat), j ≤ k ∧ i = .int .i64 j ∧ a = .int .i64 ((fulls (m.take j)).length : Nat) ∧ Hid (Below w8.heap.size w8 wr)) (fun _ i _ => k - (intOf i).toNat)
      case atStart => exact ⟨0, by omega, rfl, rfl, Lib.hid (Below.refl _ _)⟩
      case round =>
        obtain ⟨j, hj, rfl, rfl, HBW⟩ := hrel
        have B9 := Lib.hid (B8.out.trans (HBW.out.mono B8.out.size))
        obtain ⟨q0, q1, q2, q3⟩ := HS4.out wr B9.out
        have hk20 := HK20.out
        have hfl := fulls_le m j
        by_cases hlt : j < k
        · have hjm : j < m.length := HKL.out ▸ hlt
          obtain ⟨b, off, hA, hbl, hC⟩ := (HRW.out wr (HB4.out.trans (B9.out.mono HB4.out.size))).at_ j hjm
          subst hA
          have HHe := (HHA.out wr (HB4.out.trans (B9.out.mono HB4.out.size))) m[j] (List.getElem_mem hjm)
          have HFA := Lib.hid (fun h => fulls_at m j hjm h)
          have HFY := Lib.hid (fun h => fulls_yes m j hjm h)
          have HFN := Lib.hid (fun h => fulls_no m j hjm h)
          have hes := (HFO.out.inr m[j] (List.getElem_mem hjm)).sz
          obtain ⟨e, he⟩ : ∃ e, e = m[j] := ⟨_, rfl⟩
          rw [← he] at hC HHe HFA HFY HFN hes
          obtain ⟨hrow, hbl2, hnone, hn6⟩ := HHe
          have d2 : wr.cell? ⟨b, off + j * 4 + 2, none⟩ = some (.int .u32 (e.sz : Int)) := hC 2 (by omega)
          have d3 : wr.cell? ⟨b, off + j * 4 + 3, none⟩ = some (.slice e.A e.n e.c) := hC 3 (by omega)
          have j0 : (0 : Int) ≤ j := by omega
          have j1 : (j : Int) < k := by omega
          have hcv : IntKind.u32.wrap (e.n : Int) = (e.n : Int) := by rw [IntKind.wrap_u32]; omega
          have HCE := Lib.hid (show ∀ n, (convert 27 9 (.slice e.A e.n e.c)).run Try.prog (wr.drewN n) = .ok (.string (strOfNums e.bs)) (wr.drewN n) from fun n => conv_row (hrow.below (below_drewN (Below.refl _ _) n)) hbl2)
          clear hC he hrow hbl2 hnone hjm
          obtain ⟨q, hq⟩ : ∃ q, q = (fulls (m.take j)).length := ⟨_, rfl⟩
          rw [← hq] at hfl HFA ⊢
          have HQ := Lib.hid hq
          clear hq
          by_cases hf : e.n = e.sz
          · have t1 : ((e.n : Int) != (e.sz : Int)) = false := by rw [hf]; exact bne_self_eq_false _
            have t1' : ((e.n : Int) == (e.sz : Int)) = true := by rw [hf]; exact beq_self_eq_true _
            have hat := HFA.out hf
            rw [← HLF.out, List.getElem?_map] at hat
            obtain ⟨p, hp, hpb⟩ := Option.map_eq_some_iff.mp hat
            have hql : q < L.length := (List.getElem?_eq_some_iff.mp hp).1
            have hpm : p ∈ L := List.mem_of_getElem? hp
            obtain ⟨gl, cl, hv8, _, _, _, _, hcl, _⟩ := own_form HPK8.out.row (by omega)
            injection hv8 with hv1 hv2 hv3
            subst hv1 hv3
            have hcell := hcl q hql
            rw [List.getElem?_map, hp] at hcell
            have e8 : wr.cell? ⟨gl, q, none⟩ = some (.slice p.A p.n p.c) := (HBW.out.cell (p := ⟨gl, q, none⟩) (World.block_lt_of_cell? w8 _ hcell)).trans hcell
            have hpe := HPK8.out.els p hpm
            have HCP := Lib.hid (show ∀ n, (convert 27 9 (.slice p.A p.n p.c)).run Try.prog (wr.drewN n) = .ok (.string (strOfNums e.bs)) (wr.drewN n) from fun n => by
              have h1 := own_row hpe
              rw [hpb] at h1
              have h2 := hpe.1
              rw [hpb, List.length_map] at h2
              exact conv_row (h1.below (below_drewN HBW.out n)) (by omega))
            have cA := HCE.out
            have cB := HCP.out
            have t2 : decide ((L.length : Int) ≤ q) = false := decide_eq_false (by omega)
            have t2' : decide (L.length ≤ q) = false := decide_eq_false (by omega)
            have i0 : (0 : Int) ≤ q := by omega
            have i1 : (q : Int) < L.length := by omega
            have HFE := Lib.hid (show (fulls (m.take (j + 1))).length = q + 1 from by rw [HFY.out hf, List.length_append, ← HQ.out]; rfl)
            clear hat hp hpb hql hpm hcl hcell hpe hf
            go_wp2_with fail
            go_quiet (fail)
            go_wp2_with fail
            go_quiet (fail)
            go_wp2_with fail
            go_roundw
            case rel => exact ⟨j + 1, by omega, by go_num, by rw [HFE.out]; go_num, Lib.hid (below_drewN HBW.out _)⟩
            case measure => simp [intOf]; omega
          · have t1 : ((e.n : Int) != (e.sz : Int)) = true := bne_iff_ne.mpr (by omega)
            have t1' : ((e.n : Int) == (e.sz : Int)) = false := beq_eq_false_iff_ne.mpr (by omega)
            have HFE := Lib.hid (show (fulls (m.take (j + 1))).length = q from by rw [HFN.out hf, ← HQ.out])
            go_wp2_with fail
            go_quiet (fail)
            go_wp2_with fail
            go_roundw
            case rel => exact ⟨j + 1, by omega, by go_num, by rw [HFE.out], Lib.hid (below_drewN HBW.out _)⟩
            case measure => simp [intOf]; omega
        · obtain rfl : j = k := by omega
          have hz : m.take j = m := List.take_of_length_le (by rw [← HKL.out]; exact Nat.le_refl _)
          rw [hz, ← HLL.out]
          have B37 := Lib.hid (HB4.out.trans (B9.out.mono HB4.out.size))
          have H6r := Lib.hid (H68.out.trans (HBW.out.mono H68.out.size))
          have HLB := Lib.hid (fun W (h : Below wr.heap.size wr W) => HLB0.out W (B37.out.trans (h.mono B37.out.size)))
          have HSM := Lib.hid (show ∀ W : World, Below wr.heap.size wr W → Calls Try.prog 14 #[.agg #[.bool big, .int .u32 (sn : Int), .int .u32 (link : Int), .slice A1 j c1], .agg #[.bool big, .int .u32 (sn : Int), .int .u32 (link : Int), .slice A6 j c6]] W fun o w' => o = .returned (.bool true) ∧ Below W.heap.size W w' from fun W hb => same_true big sn link A1 A6 j c1 c6 m m6 W (HRW.out W (B37.out.trans (hb.mono B37.out.size))) ((HRD6.out.below H6r.out).below (hb)) (HHA.out W (B37.out.trans (hb.mono B37.out.size))) (fun e he => Has.below (Has.below (HHS6.out e he) H6r.out) hb) HKL.out.symm HRE6.out.symm (by omega))
          have HS := Lib.hid (show ∀ W : World, Below wr.heap.size wr W → (W.cell? ⟨w.heap.size, 0, none⟩ = some (.bool big) ∧ W.cell? ⟨w.heap.size, 1, none⟩ = some (.int .u32 (sn : Int)) ∧ W.cell? ⟨w.heap.size, 2, none⟩ = some (.int .u32 (link : Int)) ∧ W.cell? ⟨w.heap.size, 3, none⟩ = some (.slice A1 j c1) ∧ W.cell? ⟨gb, 0, none⟩ = some (.bool big) ∧ W.cell? ⟨gb, 1, none⟩ = some (.int .u32 (sn : Int)) ∧ W.cell? ⟨gb, 2, none⟩ = some (.int .u32 (link : Int)) ∧ W.cell? ⟨gb, 3, none⟩ = some (.slice A6 j c6) ∧ (convert 27 9 (.slice A4 X.length c4)).run Try.prog W = .ok (.string (strOfNums X)) W) from fun W hW => by
            obtain ⟨x0, x1, x2, x3⟩ := HS4.out W (B9.out.trans (hW.mono B9.out.size))
            have g := (HG8.out.below HBW.out HG8.out.lt).below hW (Nat.lt_of_lt_of_le HG8.out.lt HBW.out.size)
            have cc := conv_row (c := c4) (own_row (own_below (own_below HO4.out B9.out) hW)) rfl
            exact ⟨x0, x1, x2, x3, g.cell 0, g.cell 1, g.cell 2, g.cell 3, cc⟩)
          have K2 := Lib.hid ((Below.refl wr.heap.size wr).drew)
          clear hz
          go_wp2_with fail
          go_region_held_law (fun w' => w'.cell? ⟨w.heap.size, 0, none⟩ = some (.bool big) ∧ w'.cell? ⟨w.heap.size, 1, none⟩ = some (.int .u32 (sn : Int)) ∧ w'.cell? ⟨w.heap.size, 2, none⟩ = some (.int .u32 (link : Int)) ∧ w'.cell? ⟨w.heap.size, 3, none⟩ = some (.slice A1 j c1) ∧ w'.cell? ⟨gb, 0, none⟩ = some (.bool big) ∧ w'.cell? ⟨gb, 1, none⟩ = some (.int .u32 (sn : Int)) ∧ w'.cell? ⟨gb, 2, none⟩ = some (.int .u32 (link : Int)) ∧ w'.cell? ⟨gb, 3, none⟩ = some (.slice A6 j c6) ∧ (convert 27 9 (.slice A4 X.length c4)).run Try.prog w' = .ok (.string (strOfNums X)) w') (first | with_reducible exact HS.out _ K7.out | with_reducible exact HS.out _ K6.out | with_reducible exact HS.out _ K5.out | with_reducible exact HS.out _ K2.out)
            (first
              | (go_at_call 13; (with_reducible refine (HLB.out _ K2.out).mono ?_); rintro o w5 ⟨v5, rfl, ho5, hb5⟩; obtain ⟨A5, c5, rfl⟩ := own_slice ho5; have cvr := conv_row (c := c5) (own_row ho5) rfl; have K5 := Lib.hid (K2.out.trans (hb5.mono K2.out.size)); clear hb5 ho5)
              | (go_at_call 14; (with_reducible refine (HSM.out _ K5.out).mono ?_); rintro o w6 ⟨rfl, hb6⟩; have K6 := Lib.hid (K5.out.trans (hb6.mono K5.out.size)); clear hb6)
              | (go_at_call 10; (with_reducible refine (HAW.out _).mono ?_); rintro o w7 ⟨rfl, hb7⟩; have K7 := Lib.hid (K6.out.trans (hb7.mono K6.out.size)); clear hb7))
          all_goals
            go_wp2_with fail
            go_ret
            exact ⟨rfl, HB3.out.trans ((B37.out.trans (K7.out.mono B37.out.size)).mono HB3.out.size)⟩
end Go.Proofs.Ytmchedjeohhpcaa.pcapY
