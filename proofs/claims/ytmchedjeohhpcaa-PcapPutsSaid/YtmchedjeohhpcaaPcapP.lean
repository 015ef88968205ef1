/- Layer 36: the law's bytes of a file. -/
import Derived.Test.YtmchedjeohhpcaaPcapO
namespace Go.Proofs.Ytmchedjeohhpcaa.pcapP
open Go.ChangeShapes Go.WideShapes Go.ChangeAt Go.RowKit
open Go.Proofs.Ytmchedjeohhpcaa.base Go.Proofs.Ytmchedjeohhpcaa.pcapA Go.Proofs.Ytmchedjeohhpcaa.pcapB Go.Proofs.Ytmchedjeohhpcaa.pcapC Go.Proofs.Ytmchedjeohhpcaa.pcapD Go.Proofs.Ytmchedjeohhpcaa.pcapE Go.Proofs.Ytmchedjeohhpcaa.pcapF Go.Proofs.Ytmchedjeohhpcaa.pcapG Go.Proofs.Ytmchedjeohhpcaa.pcapI Go.Proofs.Ytmchedjeohhpcaa.pcapJ Go.Proofs.Ytmchedjeohhpcaa.pcapK Go.Proofs.Ytmchedjeohhpcaa.pcapL Go.Proofs.Ytmchedjeohhpcaa.pcapM Go.Proofs.Ytmchedjeohhpcaa.pcapO
set_option linter.unusedVariables false

theorem hb_true : hb true [2, 4] = [0, 2, 0, 4] := by decide
theorem hb_false : hb false [2, 4] = [2, 0, 4, 0] := by decide
def LBytesPost (w : World) (X : List Int) (o : Ending) (w' : World) : Prop :=
  ∃ v, o = .returned v ∧ w'.ownsRow w.heap.size 5 1 v X.length (X.map (.int .u8)) ∧ Below w.heap.size w w'
set_option maxHeartbeats 4000000 in
set_option maxRecDepth 100000 in
theorem lbytes_true (sn link : Nat) (A : Option Addr) (c : Nat) (l : List Rc) (w : World) (h1 : sn < 4294967296) (h2 : link < 4294967296) (hr : RdR w A l) (hw : ∀ e ∈ l, e.ok) (hh : ∀ e ∈ l, Has w e) (hl : l.length ≤ 4096) (hc1 : l.length ≤ c) (hc2 : c ≤ 9223372036854775807) :
    Calls Try.prog 13 #[.agg #[.bool true, .int .u32 (sn : Int), .int .u32 (link : Int), .slice A l.length c]] w (LBytesPost w (headB true sn link ++ bodyB true l)) := by
  obtain ⟨i0, hi0, hz0, hz1, hz2⟩ := info_parts info_u8
  have HI0 := Lib.hid hi0
  have HZ0 := Lib.hid hz0
  have HZ1 := Lib.hid hz1
  have HZ2 := Lib.hid hz2
  clear hi0 hz0 hz1 hz2
  have HF := Lib.hid (show ∀ (n : Nat), n < 4294967296 → ∀ (W : World) (v : Value) (X : List Int), W.ownsRow w.heap.size 5 1 v X.length (X.map (.int .u8)) → X.length + 4 ≤ 1000000000 → Below w.heap.size w W → Calls Try.prog 23 #[v, .bool true, .int .u32 (n : Int)] W (PutPost W w.heap.size w.heap.size w X.length 4 (X.map (.int .u8)) (fourZ (ordN true n))) from fun n hn W v X ho hx hb => lfour_any true v X.length (X.map (.int .u8)) n w.heap.size w.heap.size w W ho hb.size hx hb (Nat.le_refl _) hn)
  have HF0 := Lib.hid (show ∀ (W : World) (v : Value) (X : List Int), W.ownsRow w.heap.size 5 1 v X.length (X.map (.int .u8)) → X.length + 4 ≤ 1000000000 → Below w.heap.size w W → Calls Try.prog 23 #[v, .bool true, .int .u32 0] W (PutPost W w.heap.size w.heap.size w X.length 4 (X.map (.int .u8)) (fourZ (ordN true 0))) from fun W v X ho hx hb => HF.out 0 (by decide) W v X ho hx hb)
  have BA : Below w.heap.size w (w.alloc (.cells #[.bool true, .int .u32 (sn : Int), .int .u32 (link : Int), .slice A l.length c] 25)) := (Below.refl w.heap.size w).alloc (Nat.le_refl _) _
  have HM := Lib.hid (show Calls Try.prog 23 #[.slice none 0 0, .bool true, .int .u32 2712847316] (w.alloc (.cells #[.bool true, .int .u32 (sn : Int), .int .u32 (link : Int), .slice A l.length c] 25)) (PutPost (w.alloc (.cells #[.bool true, .int .u32 (sn : Int), .int .u32 (link : Int), .slice A l.length c] 25)) w.heap.size w.heap.size w ([] : List Int).length 4 (([] : List Int).map (.int .u8)) (fourZ (ordN true 2712847316))) from HF.out 2712847316 (by decide) _ _ [] (World.ownsRow_nil _ _ _ _) (by decide) BA)
  have HK0 := Lib.hid (Blk.new w 25 #[.bool true, .int .u32 (sn : Int), .int .u32 (link : Int), .slice A l.length c])
  have HR := Lib.hid hr
  have HW := Lib.hid hw
  have HHas := Lib.hid hh
  have HLEN := Lib.hid (fun j => bodyB_len true w (l.take j) (fun e he => hh e (List.mem_of_mem_take he)))
  have HEQ := Lib.hid (show ((((fourZ (ordN true 2712847316) ++ ([0, 2, 0, 4] : List Int)) ++ fourZ (ordN true 0)) ++ fourZ (ordN true 0)) ++ fourZ (ordN true sn)) ++ fourZ (ordN true link) = headB true sn link from by
    unfold headB
    rw [hb_true]
    simp only [wb, List.flatMap_cons, List.flatMap_nil, List.append_nil, List.append_assoc])
  have HHL := Lib.hid (headB_len true sn link)
  obtain ⟨n, hn⟩ : ∃ n, n = l.length := ⟨_, rfl⟩
  have HN := Lib.hid hn
  rw [← hn] at HM HK0 hl hc1 ⊢
  obtain ⟨HX, hHX⟩ : ∃ HX, HX = headB true sn link := ⟨_, rfl⟩
  rw [← hHX] at HEQ HHL ⊢
  clear hr hw hn hh hHX BA
  go_enter Try.func13, Try.ntmps13
  go_wp2_with fail
  refine HM.out.mono ?_
  rintro o w1 ⟨v1, rfl, ho1, hb1, hs1, st1⟩
  have hk1 := st1 w.heap.size _ _ (by decide) HK0.out
  have f0 : w1.cell? ⟨w.heap.size, 0, none⟩ = some (.bool true) := hk1.cell 0
  have HK1 := Lib.hid hk1
  have HO1 := Lib.hid (show w1.ownsRow w.heap.size 5 1 v1 4 ((fourZ (ordN true 2712847316)).map (.int .u8)) from by simpa using ho1)
  have HB1 := Lib.hid hb1
  have l1 := Blk.new w1 5 #[.int .u8 0, .int .u8 2, .int .u8 0, .int .u8 4]
  have HNW := Lib.hid (lit_new w1 #[.int .u8 0, .int .u8 2, .int .u8 0, .int .u8 4] 5)
  clear hk1 ho1 hb1 st1 l1
  go_wp2_with (at_builtin; refine wpList_append_own _ rfl (.tmp 11) (.tmp 12) _ rfl w.heap.size 5 i0 _ 1 1 Try.underlying27 HI0.out HZ0.out HZ1.out HZ2.out rfl (by omega) v1 4 _ rfl (HO1.out.alloc _) ⟨w1.heap.size, 0, none⟩ 4 4 (([0, 2, 0, 4] : List Int).map (.int .u8)) rfl rfl HNW.out (one_u8 _) (by unfold maxLen; omega) (by omega) (by simp; omega) ?_; intro v2 w2 ho2 hg2 _; have HO2 := Lib.hid (own_as (Y := fourZ (ordN true 2712847316) ++ ([0, 2, 0, 4] : List Int)) ho2 (by simp)); have HB2 := Lib.hid (below_grown (HB1.out.alloc HB1.out.size (.cells #[.int .u8 0, .int .u8 2, .int .u8 0, .int .u8 4] 5)) (HO1.out.alloc (.cells #[.int .u8 0, .int .u8 2, .int .u8 0, .int .u8 4] 5)) (Nat.le_refl _) (by simp; omega) hg2); have hk2 := (HK1.out.alloc (.cells #[.int .u8 0, .int .u8 2, .int .u8 0, .int .u8 4] 5)).grown hg2 (own_ne (v := v1) (by decide) (HO1.out.alloc (.cells #[.int .u8 0, .int .u8 2, .int .u8 0, .int .u8 4] 5)) (HK1.out.alloc (.cells #[.int .u8 0, .int .u8 2, .int .u8 0, .int .u8 4] 5))); have f0 : w2.cell? ⟨w.heap.size, 0, none⟩ = some (.bool true) := hk2.cell 0; have HK2 := Lib.hid hk2; clear ho2 hg2 hk2)
  go_region_held3 (fun w' => w'.cell? ⟨w.heap.size, 0, none⟩ = some (.bool true)) (first | with_reducible assumption | exact f0)
    (first
      | (go_at_call 23
         (first
          | (with_reducible refine (HF0.out _ v3 _ HO3.out (by decide) HB3.out).mono ?_)
          | (with_reducible refine (HF0.out _ v2 _ (World.ownsRow.drew HO2.out) (by decide) HB2.out.drew).mono ?_))
         rintro o w3 ⟨v3, rfl, ho3, hb3, hs3, st3⟩
         have hk3 : Blk w3 w.heap.size 25 #[.bool true, .int .u32 (sn : Int), .int .u32 (link : Int), .slice A n c] := st3 w.heap.size 25 #[.bool true, .int .u32 (sn : Int), .int .u32 (link : Int), .slice A n c] (by decide) (by first | exact HK3.out | exact HK2.out.drew)
         have f3 : w3.cell? ⟨w.heap.size, 0, none⟩ = some (.bool true) := hk3.cell 0
         have HK3 := Lib.hid hk3
         have HO3 := Lib.hid (own_as ho3 (List.map_append ..).symm)
         have HB3 := Lib.hid hb3
         clear ho3 hb3 hs3 st3 hk3))
  have f30 : w3.cell? ⟨w.heap.size, 0, none⟩ = some (.bool true) := HK3.out.cell 0
  have f31 : w3.cell? ⟨w.heap.size, 1, none⟩ = some (.int .u32 (sn : Int)) := HK3.out.cell 1
  have f32 : w3.cell? ⟨w.heap.size, 2, none⟩ = some (.int .u32 (link : Int)) := HK3.out.cell 2
  have s3 : w3.drew.cell? ⟨w.heap.size, 0, none⟩ = some (.bool true) ∧ w3.drew.cell? ⟨w.heap.size, 1, none⟩ = some (.int .u32 (sn : Int)) ∧ w3.drew.cell? ⟨w.heap.size, 2, none⟩ = some (.int .u32 (link : Int)) := ⟨f30, f31, f32⟩
  go_wp2_with fail
  go_region_held3 (fun w' => w'.cell? ⟨w.heap.size, 0, none⟩ = some (.bool true) ∧ w'.cell? ⟨w.heap.size, 1, none⟩ = some (.int .u32 (sn : Int)) ∧ w'.cell? ⟨w.heap.size, 2, none⟩ = some (.int .u32 (link : Int))) (first | with_reducible assumption | exact s3)
    (first
      | (go_at_call 23
         (first
          | (with_reducible refine (HF.out link h2 _ v4 _ HO4.out (by simp [fourZ]) HB4.out).mono ?_)
          | (with_reducible refine (HF.out sn h1 _ v3 _ (World.ownsRow.drew HO3.out) (by simp [fourZ]) HB3.out.drew).mono ?_))
         rintro o w4 ⟨v4, rfl, ho4, hb4, hs4, st4⟩
         have hk4 : Blk w4 w.heap.size 25 #[.bool true, .int .u32 (sn : Int), .int .u32 (link : Int), .slice A n c] := st4 w.heap.size 25 #[.bool true, .int .u32 (sn : Int), .int .u32 (link : Int), .slice A n c] (by decide) (by first | exact HK4.out | exact HK3.out.drew)
         have f40 : w4.cell? ⟨w.heap.size, 0, none⟩ = some (.bool true) := hk4.cell 0
         have f41 : w4.cell? ⟨w.heap.size, 1, none⟩ = some (.int .u32 (sn : Int)) := hk4.cell 1
         have f42 : w4.cell? ⟨w.heap.size, 2, none⟩ = some (.int .u32 (link : Int)) := hk4.cell 2
         have s4 : w4.cell? ⟨w.heap.size, 0, none⟩ = some (.bool true) ∧ w4.cell? ⟨w.heap.size, 1, none⟩ = some (.int .u32 (sn : Int)) ∧ w4.cell? ⟨w.heap.size, 2, none⟩ = some (.int .u32 (link : Int)) := ⟨f40, f41, f42⟩
         have HK4 := Lib.hid hk4
         have HO4 := Lib.hid (own_as ho4 (List.map_append ..).symm)
         have HB4 := Lib.hid hb4
         clear ho4 hb4 hs4 st4 hk4))
  have HO5 := Lib.hid (show w4.ownsRow w.heap.size 5 1 v4 HX.length (HX.map (.int .u8)) from HEQ.out ▸ HO4.out)
  clear s3 s4 f0 f30 f31 f32 f40 f41 f42 f3 HO4 HO3 HO2 HO1 HB3 HB2 HB1 HK1 HK2 HK3 HM HF0 HNW hs1
  go_wp2_with fail
  go_loopw [3, 4] (fun out i wr => ∃ (j : Nat), j ≤ n ∧ i = .int .i64 j ∧ wr.ownsRow w.heap.size 5 1 out (HX ++ bodyB true (l.take j)).length ((HX ++ bodyB true (l.take j)).map (.int .u8)) ∧ Hid (Below w.heap.size w wr) ∧ Hid (Blk wr w.heap.size 25 #[.bool true, .int .u32 (sn : Int), .int .u32 (link : Int), .slice A n c])) (fun _ i _ => n - (intOf i).toNat)
  case atStart => exact ⟨0, by omega, rfl, by simpa [bodyB] using HO5.out, HB4, HK4⟩
  case round =>
    obtain ⟨j, hj, rfl, hown, HBR, HKR⟩ := hrel
    have HLj := HLEN.out j
    have f0 := HKR.out.cell 0
    have f3 : wr.cell? ⟨w.heap.size, 3, none⟩ = some (.slice A n c) := HKR.out.cell 3
    by_cases hlt : j < n
    · have hjl : j < l.length := HN.out ▸ hlt
      obtain ⟨b, off, hA, hbl, hC⟩ := (HR.out.below HBR.out).at_ j hjl
      subst hA
      have HSN := Lib.hid (show HX ++ bodyB true (l.take (j + 1)) = (((((HX ++ bodyB true (l.take j)) ++ fourZ (ordN true (l[j]).sec)) ++ fourZ (ordN true (l[j]).mic)) ++ fourZ (ordN true (l[j]).n)) ++ fourZ (ordN true (l[j]).sz)) ++ (l[j]).bs from by
        rw [take_snocR l j hjl, bodyB_snoc]
        simp only [wb, List.flatMap_cons, List.flatMap_nil, List.append_nil, List.append_assoc])
      have hlen : (HX ++ bodyB true (l.take j)).length ≤ 270000000 := by
        rw [List.length_append, HHL.out]
        have : (l.take j).length ≤ 4096 := by rw [List.length_take]; omega
        omega
      obtain ⟨hrow, hbl2, hnone, hn6⟩ := HHas.out l[j] (List.getElem_mem hjl)
      obtain ⟨o1, o2, o3, o4⟩ := HW.out l[j] (List.getElem_mem hjl)
      obtain ⟨X, hX⟩ : ∃ X, X = HX ++ bodyB true (l.take j) := ⟨_, rfl⟩
      rw [← hX] at hown hlen HSN
      obtain ⟨e, he⟩ : ∃ e, e = l[j] := ⟨_, rfl⟩
      rw [← he] at hC HSN hrow hbl2 hnone hn6 o1 o2 o3 o4
      have d0 : wr.cell? ⟨b, off + j * 4, none⟩ = some (.int .u32 (e.sec : Int)) := hC 0 (by omega)
      have d1 : wr.cell? ⟨b, off + j * 4 + 1, none⟩ = some (.int .u32 (e.mic : Int)) := hC 1 (by omega)
      have d2 : wr.cell? ⟨b, off + j * 4 + 2, none⟩ = some (.int .u32 (e.sz : Int)) := hC 2 (by omega)
      have d3 : wr.cell? ⟨b, off + j * 4 + 3, none⟩ = some (.slice e.A e.n e.c) := hC 3 (by omega)
      obtain ⟨wq, hwq⟩ : ∃ wq, wq = wr.alloc (.cells #[.int .u32 (e.sec : Int), .int .u32 (e.mic : Int), .int .u32 (e.sz : Int), .slice e.A e.n e.c] 38) := ⟨_, rfl⟩
      have HWQ := Lib.hid hwq
      obtain ⟨r, hrr⟩ : ∃ r, r = wr.heap.size := ⟨_, rfl⟩
      have HRR := Lib.hid hrr
      have HKQ := Lib.hid (show Blk wq w.heap.size 25 #[.bool true, .int .u32 (sn : Int), .int .u32 (link : Int), .slice (some ⟨b, off, none⟩) n c] from hwq ▸ HKR.out.alloc _)
      have HRQ := Lib.hid (show Blk wq r 38 #[.int .u32 (e.sec : Int), .int .u32 (e.mic : Int), .int .u32 (e.sz : Int), .slice e.A e.n e.c] from hwq ▸ hrr ▸ Blk.new wr _ _)
      have HBQ := Lib.hid (show Below w.heap.size w wq from hwq ▸ HBR.out.alloc HBR.out.size _)
      have HOQ := Lib.hid (show wq.ownsRow w.heap.size 5 1 _ X.length (X.map (.int .u8)) from hwq ▸ hown.alloc _)
      have SF := Lib.hid (show ∀ W : World, Blk W w.heap.size 25 #[.bool true, .int .u32 (sn : Int), .int .u32 (link : Int), .slice (some ⟨b, off, none⟩) n c] → Blk W r 38 #[.int .u32 (e.sec : Int), .int .u32 (e.mic : Int), .int .u32 (e.sz : Int), .slice e.A e.n e.c] → W.cell? ⟨w.heap.size, 0, none⟩ = some (.bool true) ∧ W.cell? ⟨r, 0, none⟩ = some (.int .u32 (e.sec : Int)) ∧ W.cell? ⟨r, 1, none⟩ = some (.int .u32 (e.mic : Int)) ∧ W.cell? ⟨r, 2, none⟩ = some (.int .u32 (e.sz : Int)) ∧ W.cell? ⟨r, 3, none⟩ = some (.slice e.A e.n e.c) from fun W h k => ⟨h.cell 0, k.cell 0, k.cell 1, k.cell 2, k.cell 3⟩)
      have j0 : (0 : Int) ≤ j := by omega
      have j1 : (j : Int) < n := by omega
      have hcv : IntKind.u32.wrap (e.n : Int) = (e.n : Int) := by rw [IntKind.wrap_u32]; omega
      have HROW := Lib.hid hrow
      have HBL := Lib.hid hbl2
      have HNONE := Lib.hid hnone
      have O1 := Lib.hid o1
      have O2 := Lib.hid o2
      have O3 := Lib.hid o3
      have ON := Lib.hid (show e.n < 4294967296 by omega)
      have L1 := Lib.hid (show X.length + 4 ≤ 1000000000 by omega)
      have L2 := Lib.hid (show (X ++ fourZ (ordN true e.sec)).length + 4 ≤ 1000000000 by rw [List.length_append, fourZ_len]; omega)
      have L3 := Lib.hid (show ((X ++ fourZ (ordN true e.sec)) ++ fourZ (ordN true e.mic)).length + 4 ≤ 1000000000 by rw [List.length_append, List.length_append, fourZ_len, fourZ_len]; omega)
      have L4 := Lib.hid (show (((X ++ fourZ (ordN true e.sec)) ++ fourZ (ordN true e.mic)) ++ fourZ (ordN true e.n)).length + 4 ≤ 1000000000 by rw [List.length_append, List.length_append, List.length_append, fourZ_len, fourZ_len, fourZ_len]; omega)
      have L5 := Lib.hid (show ((((X ++ fourZ (ordN true e.sec)) ++ fourZ (ordN true e.mic)) ++ fourZ (ordN true e.n)) ++ fourZ (ordN true e.sz)).length + e.n ≤ 300000000 by rw [List.length_append, List.length_append, List.length_append, List.length_append, fourZ_len, fourZ_len, fourZ_len, fourZ_len]; omega)
      clear hC hown hrow hbl2 hnone he hX hwq hrr o1 o2 o3 o4 HLj hlen hn6
      go_wp2_with fail
      rw [← HRR.out, ← HWQ.out]
      have sB5 := SF.out wq.drew HKQ.out HRQ.out
      go_region_held3 (fun w' => w'.cell? ⟨w.heap.size, 0, none⟩ = some (.bool true) ∧ w'.cell? ⟨r, 0, none⟩ = some (.int .u32 (e.sec : Int)) ∧ w'.cell? ⟨r, 1, none⟩ = some (.int .u32 (e.mic : Int)) ∧ w'.cell? ⟨r, 2, none⟩ = some (.int .u32 (e.sz : Int)) ∧ w'.cell? ⟨r, 3, none⟩ = some (.slice e.A e.n e.c)) (first | with_reducible assumption | exact sB5)
        (first
          | (go_at_call 23
             (first
              | (with_reducible refine (HF.out e.mic O2.out _ v5 _ HO5.out L2.out HB5.out).mono ?_)
              | (with_reducible refine (HF.out e.sec O1.out _ u3 _ (World.ownsRow.drew HOQ.out) L1.out HBQ.out.drew).mono ?_))
             rintro o w5 ⟨v5, rfl, ho, hb, hs, st⟩
             have hk : Blk w5 w.heap.size 25 #[.bool true, .int .u32 (sn : Int), .int .u32 (link : Int), .slice (some ⟨b, off, none⟩) n c] := st w.heap.size 25 #[.bool true, .int .u32 (sn : Int), .int .u32 (link : Int), .slice (some ⟨b, off, none⟩) n c] (by decide) (by first | exact HK5.out | exact HKQ.out.drew)
             have hr : Blk w5 r 38 #[.int .u32 (e.sec : Int), .int .u32 (e.mic : Int), .int .u32 (e.sz : Int), .slice e.A e.n e.c] := st r 38 #[.int .u32 (e.sec : Int), .int .u32 (e.mic : Int), .int .u32 (e.sz : Int), .slice e.A e.n e.c] (by decide) (by first | exact HR5.out | exact HRQ.out.drew)
             have s5 := SF.out w5 hk hr
             have HK5 := Lib.hid hk
             have HR5 := Lib.hid hr
             have HO5 := Lib.hid (own_as ho (List.map_append ..).symm)
             have HB5 := Lib.hid hb
             clear ho hb hs st hk hr))
      have s5' := SF.out w5 HK5.out HR5.out
      obtain ⟨q1, q2, q3, q4, q5⟩ := s5'
      go_wp2_with fail
      have sB6 := SF.out w5.drew HK5.out HR5.out
      go_region_held3 (fun w' => w'.cell? ⟨w.heap.size, 0, none⟩ = some (.bool true) ∧ w'.cell? ⟨r, 0, none⟩ = some (.int .u32 (e.sec : Int)) ∧ w'.cell? ⟨r, 1, none⟩ = some (.int .u32 (e.mic : Int)) ∧ w'.cell? ⟨r, 2, none⟩ = some (.int .u32 (e.sz : Int)) ∧ w'.cell? ⟨r, 3, none⟩ = some (.slice e.A e.n e.c)) (first | with_reducible assumption | exact sB6)
        (first
          | (go_at_call 23
             (first
              | (with_reducible refine (HF.out e.sz O3.out _ v6 _ HO6.out L4.out HB6.out).mono ?_)
              | (with_reducible refine (HF.out e.n ON.out _ v5 _ (World.ownsRow.drew HO5.out) L3.out HB5.out.drew).mono ?_))
             rintro o w6 ⟨v6, rfl, ho, hb, hs, st⟩
             have hk : Blk w6 w.heap.size 25 #[.bool true, .int .u32 (sn : Int), .int .u32 (link : Int), .slice (some ⟨b, off, none⟩) n c] := st w.heap.size 25 #[.bool true, .int .u32 (sn : Int), .int .u32 (link : Int), .slice (some ⟨b, off, none⟩) n c] (by decide) (by first | exact HK6.out | exact HK5.out.drew)
             have hr : Blk w6 r 38 #[.int .u32 (e.sec : Int), .int .u32 (e.mic : Int), .int .u32 (e.sz : Int), .slice e.A e.n e.c] := st r 38 #[.int .u32 (e.sec : Int), .int .u32 (e.mic : Int), .int .u32 (e.sz : Int), .slice e.A e.n e.c] (by decide) (by first | exact HR6.out | exact HR5.out.drew)
             have s6 := SF.out w6 hk hr
             have HK6 := Lib.hid hk
             have HR6 := Lib.hid hr
             have HO6 := Lib.hid (own_as ho (List.map_append ..).symm)
             have HB6 := Lib.hid hb
             clear ho hb hs st hk hr))
      obtain ⟨q1', q2', q3', q4', q5'⟩ := SF.out w6 HK6.out HR6.out
      have HRO := Lib.hid (HROW.out.below HB6.out)
      have HS6 := Lib.hid HB6.out.size
      have y3 : (e.bs.map (Value.int .u8)).length = e.n := by rw [List.length_map, HBL.out]
      have y4 := L5.out
      have Y1 := Lib.hid (show ((((X ++ fourZ (ordN true e.sec)) ++ fourZ (ordN true e.mic)) ++ fourZ (ordN true e.n)) ++ fourZ (ordN true e.sz)).length + e.n ≤ maxLen by unfold maxLen; omega)
      have Y2 := Lib.hid (show (((((X ++ fourZ (ordN true e.sec)) ++ fourZ (ordN true e.mic)) ++ fourZ (ordN true e.n)) ++ fourZ (ordN true e.sz)).length + e.n) * 1 ≤ 140737488355328 by omega)
      have Y3 := Lib.hid y3
      clear y3 y4 q1 q2 q3 q4 q5 sB5 sB6
      go_wp2_with (at_builtin; refine wpList_append_row rfl (.tmp 71) (.tmp 73) _ rfl w.heap.size 5 i0 _ 1 Try.underlying27 HI0.out HZ0.out HZ1.out HZ2.out rfl v6 _ _ rfl HO6.out e.A e.n e.c w.heap.size (e.bs.map (.int .u8)) rfl HNONE.out Y3.out HRO.out (one_u8 _) Y1.out Y2.out HS6.out ?_; intro va wa owna ga; have HOa := Lib.hid (own_as owna (List.map_append ..).symm); have HBa := Lib.hid (below_grown HB6.out HO6.out (Nat.le_refl _) HS6.out ga); have HKa := Lib.hid (HK6.out.grown ga (own_ne (by decide) HO6.out HK6.out)); clear owna ga)
      go_roundw
      case rel =>
        refine ⟨j + 1, by omega, by go_num, ?_, HBa, HKa⟩
        rw [HSN.out]
        exact HOa.out
      case measure => simp [intOf]; omega
    · obtain rfl : j = n := by omega
      have hz : l.take j = l := List.take_of_length_le (by rw [HN.out]; omega)
      rw [hz] at hown
      have HOwn := Lib.hid hown
      clear hown hz
      go_wp2_with fail
      go_ret
      exact ⟨_, rfl, HOwn.out, HBR.out⟩
set_option maxHeartbeats 4000000 in
set_option maxRecDepth 100000 in
theorem lbytes_false (sn link : Nat) (A : Option Addr) (c : Nat) (l : List Rc) (w : World) (h1 : sn < 4294967296) (h2 : link < 4294967296) (hr : RdR w A l) (hw : ∀ e ∈ l, e.ok) (hh : ∀ e ∈ l, Has w e) (hl : l.length ≤ 4096) (hc1 : l.length ≤ c) (hc2 : c ≤ 9223372036854775807) :
    Calls Try.prog 13 #[.agg #[.bool false, .int .u32 (sn : Int), .int .u32 (link : Int), .slice A l.length c]] w (LBytesPost w (headB false sn link ++ bodyB false l)) := by
  obtain ⟨i0, hi0, hz0, hz1, hz2⟩ := info_parts info_u8
  have HI0 := Lib.hid hi0
  have HZ0 := Lib.hid hz0
  have HZ1 := Lib.hid hz1
  have HZ2 := Lib.hid hz2
  clear hi0 hz0 hz1 hz2
  have HF := Lib.hid (show ∀ (n : Nat), n < 4294967296 → ∀ (W : World) (v : Value) (X : List Int), W.ownsRow w.heap.size 5 1 v X.length (X.map (.int .u8)) → X.length + 4 ≤ 1000000000 → Below w.heap.size w W → Calls Try.prog 23 #[v, .bool false, .int .u32 (n : Int)] W (PutPost W w.heap.size w.heap.size w X.length 4 (X.map (.int .u8)) (fourZ (ordN false n))) from fun n hn W v X ho hx hb => lfour_any false v X.length (X.map (.int .u8)) n w.heap.size w.heap.size w W ho hb.size hx hb (Nat.le_refl _) hn)
  have HF0 := Lib.hid (show ∀ (W : World) (v : Value) (X : List Int), W.ownsRow w.heap.size 5 1 v X.length (X.map (.int .u8)) → X.length + 4 ≤ 1000000000 → Below w.heap.size w W → Calls Try.prog 23 #[v, .bool false, .int .u32 0] W (PutPost W w.heap.size w.heap.size w X.length 4 (X.map (.int .u8)) (fourZ (ordN false 0))) from fun W v X ho hx hb => HF.out 0 (by decide) W v X ho hx hb)
  have BA : Below w.heap.size w (w.alloc (.cells #[.bool false, .int .u32 (sn : Int), .int .u32 (link : Int), .slice A l.length c] 25)) := (Below.refl w.heap.size w).alloc (Nat.le_refl _) _
  have HM := Lib.hid (show Calls Try.prog 23 #[.slice none 0 0, .bool false, .int .u32 2712847316] (w.alloc (.cells #[.bool false, .int .u32 (sn : Int), .int .u32 (link : Int), .slice A l.length c] 25)) (PutPost (w.alloc (.cells #[.bool false, .int .u32 (sn : Int), .int .u32 (link : Int), .slice A l.length c] 25)) w.heap.size w.heap.size w ([] : List Int).length 4 (([] : List Int).map (.int .u8)) (fourZ (ordN false 2712847316))) from HF.out 2712847316 (by decide) _ _ [] (World.ownsRow_nil _ _ _ _) (by decide) BA)
  have HK0 := Lib.hid (Blk.new w 25 #[.bool false, .int .u32 (sn : Int), .int .u32 (link : Int), .slice A l.length c])
  have HR := Lib.hid hr
  have HW := Lib.hid hw
  have HHas := Lib.hid hh
  have HLEN := Lib.hid (fun j => bodyB_len false w (l.take j) (fun e he => hh e (List.mem_of_mem_take he)))
  have HEQ := Lib.hid (show ((((fourZ (ordN false 2712847316) ++ ([2, 0, 4, 0] : List Int)) ++ fourZ (ordN false 0)) ++ fourZ (ordN false 0)) ++ fourZ (ordN false sn)) ++ fourZ (ordN false link) = headB false sn link from by
    unfold headB
    rw [hb_false]
    simp only [wb, List.flatMap_cons, List.flatMap_nil, List.append_nil, List.append_assoc])
  have HHL := Lib.hid (headB_len false sn link)
  obtain ⟨n, hn⟩ : ∃ n, n = l.length := ⟨_, rfl⟩
  have HN := Lib.hid hn
  rw [← hn] at HM HK0 hl hc1 ⊢
  obtain ⟨HX, hHX⟩ : ∃ HX, HX = headB false sn link := ⟨_, rfl⟩
  rw [← hHX] at HEQ HHL ⊢
  clear hr hw hn hh hHX BA
  go_enter Try.func13, Try.ntmps13
  go_wp2_with fail
  refine HM.out.mono ?_
  rintro o w1 ⟨v1, rfl, ho1, hb1, hs1, st1⟩
  have hk1 := st1 w.heap.size _ _ (by decide) HK0.out
  have f0 : w1.cell? ⟨w.heap.size, 0, none⟩ = some (.bool false) := hk1.cell 0
  have HK1 := Lib.hid hk1
  have HO1 := Lib.hid (show w1.ownsRow w.heap.size 5 1 v1 4 ((fourZ (ordN false 2712847316)).map (.int .u8)) from by simpa using ho1)
  have HB1 := Lib.hid hb1
  have l1 := Blk.new w1 5 #[.int .u8 2, .int .u8 0, .int .u8 4, .int .u8 0]
  have HNW := Lib.hid (lit_new w1 #[.int .u8 2, .int .u8 0, .int .u8 4, .int .u8 0] 5)
  clear hk1 ho1 hb1 st1 l1
  go_wp2_with (at_builtin; refine wpList_append_own _ rfl (.tmp 14) (.tmp 15) _ rfl w.heap.size 5 i0 _ 1 1 Try.underlying27 HI0.out HZ0.out HZ1.out HZ2.out rfl (by omega) v1 4 _ rfl (HO1.out.alloc _) ⟨w1.heap.size, 0, none⟩ 4 4 (([2, 0, 4, 0] : List Int).map (.int .u8)) rfl rfl HNW.out (one_u8 _) (by unfold maxLen; omega) (by omega) (by simp; omega) ?_; intro v2 w2 ho2 hg2 _; have HO2 := Lib.hid (own_as (Y := fourZ (ordN false 2712847316) ++ ([2, 0, 4, 0] : List Int)) ho2 (by simp)); have HB2 := Lib.hid (below_grown (HB1.out.alloc HB1.out.size (.cells #[.int .u8 2, .int .u8 0, .int .u8 4, .int .u8 0] 5)) (HO1.out.alloc (.cells #[.int .u8 2, .int .u8 0, .int .u8 4, .int .u8 0] 5)) (Nat.le_refl _) (by simp; omega) hg2); have hk2 := (HK1.out.alloc (.cells #[.int .u8 2, .int .u8 0, .int .u8 4, .int .u8 0] 5)).grown hg2 (own_ne (v := v1) (by decide) (HO1.out.alloc (.cells #[.int .u8 2, .int .u8 0, .int .u8 4, .int .u8 0] 5)) (HK1.out.alloc (.cells #[.int .u8 2, .int .u8 0, .int .u8 4, .int .u8 0] 5))); have f0 : w2.cell? ⟨w.heap.size, 0, none⟩ = some (.bool false) := hk2.cell 0; have HK2 := Lib.hid hk2; clear ho2 hg2 hk2)
  go_region_held3 (fun w' => w'.cell? ⟨w.heap.size, 0, none⟩ = some (.bool false)) (first | with_reducible assumption | exact f0)
    (first
      | (go_at_call 23
         (first
          | (with_reducible refine (HF0.out _ v3 _ HO3.out (by decide) HB3.out).mono ?_)
          | (with_reducible refine (HF0.out _ v2 _ (World.ownsRow.drew HO2.out) (by decide) HB2.out.drew).mono ?_))
         rintro o w3 ⟨v3, rfl, ho3, hb3, hs3, st3⟩
         have hk3 : Blk w3 w.heap.size 25 #[.bool false, .int .u32 (sn : Int), .int .u32 (link : Int), .slice A n c] := st3 w.heap.size 25 #[.bool false, .int .u32 (sn : Int), .int .u32 (link : Int), .slice A n c] (by decide) (by first | exact HK3.out | exact HK2.out.drew)
         have f3 : w3.cell? ⟨w.heap.size, 0, none⟩ = some (.bool false) := hk3.cell 0
         have HK3 := Lib.hid hk3
         have HO3 := Lib.hid (own_as ho3 (List.map_append ..).symm)
         have HB3 := Lib.hid hb3
         clear ho3 hb3 hs3 st3 hk3))
  have f30 : w3.cell? ⟨w.heap.size, 0, none⟩ = some (.bool false) := HK3.out.cell 0
  have f31 : w3.cell? ⟨w.heap.size, 1, none⟩ = some (.int .u32 (sn : Int)) := HK3.out.cell 1
  have f32 : w3.cell? ⟨w.heap.size, 2, none⟩ = some (.int .u32 (link : Int)) := HK3.out.cell 2
  have s3 : w3.drew.cell? ⟨w.heap.size, 0, none⟩ = some (.bool false) ∧ w3.drew.cell? ⟨w.heap.size, 1, none⟩ = some (.int .u32 (sn : Int)) ∧ w3.drew.cell? ⟨w.heap.size, 2, none⟩ = some (.int .u32 (link : Int)) := ⟨f30, f31, f32⟩
  go_wp2_with fail
  go_region_held3 (fun w' => w'.cell? ⟨w.heap.size, 0, none⟩ = some (.bool false) ∧ w'.cell? ⟨w.heap.size, 1, none⟩ = some (.int .u32 (sn : Int)) ∧ w'.cell? ⟨w.heap.size, 2, none⟩ = some (.int .u32 (link : Int))) (first | with_reducible assumption | exact s3)
    (first
      | (go_at_call 23
         (first
          | (with_reducible refine (HF.out link h2 _ v4 _ HO4.out (by simp [fourZ]) HB4.out).mono ?_)
          | (with_reducible refine (HF.out sn h1 _ v3 _ (World.ownsRow.drew HO3.out) (by simp [fourZ]) HB3.out.drew).mono ?_))
         rintro o w4 ⟨v4, rfl, ho4, hb4, hs4, st4⟩
         have hk4 : Blk w4 w.heap.size 25 #[.bool false, .int .u32 (sn : Int), .int .u32 (link : Int), .slice A n c] := st4 w.heap.size 25 #[.bool false, .int .u32 (sn : Int), .int .u32 (link : Int), .slice A n c] (by decide) (by first | exact HK4.out | exact HK3.out.drew)
         have f40 : w4.cell? ⟨w.heap.size, 0, none⟩ = some (.bool false) := hk4.cell 0
         have f41 : w4.cell? ⟨w.heap.size, 1, none⟩ = some (.int .u32 (sn : Int)) := hk4.cell 1
         have f42 : w4.cell? ⟨w.heap.size, 2, none⟩ = some (.int .u32 (link : Int)) := hk4.cell 2
         have s4 : w4.cell? ⟨w.heap.size, 0, none⟩ = some (.bool false) ∧ w4.cell? ⟨w.heap.size, 1, none⟩ = some (.int .u32 (sn : Int)) ∧ w4.cell? ⟨w.heap.size, 2, none⟩ = some (.int .u32 (link : Int)) := ⟨f40, f41, f42⟩
         have HK4 := Lib.hid hk4
         have HO4 := Lib.hid (own_as ho4 (List.map_append ..).symm)
         have HB4 := Lib.hid hb4
         clear ho4 hb4 hs4 st4 hk4))
  have HO5 := Lib.hid (show w4.ownsRow w.heap.size 5 1 v4 HX.length (HX.map (.int .u8)) from HEQ.out ▸ HO4.out)
  clear s3 s4 f0 f30 f31 f32 f40 f41 f42 f3 HO4 HO3 HO2 HO1 HB3 HB2 HB1 HK1 HK2 HK3 HM HF0 HNW hs1
  go_wp2_with fail
  go_loopw [3, 4] (fun out i wr => ∃ (j : Nat), j ≤ n ∧ i = .int .i64 j ∧ wr.ownsRow w.heap.size 5 1 out (HX ++ bodyB false (l.take j)).length ((HX ++ bodyB false (l.take j)).map (.int .u8)) ∧ Hid (Below w.heap.size w wr) ∧ Hid (Blk wr w.heap.size 25 #[.bool false, .int .u32 (sn : Int), .int .u32 (link : Int), .slice A n c])) (fun _ i _ => n - (intOf i).toNat)
  case atStart => exact ⟨0, by omega, rfl, by simpa [bodyB] using HO5.out, HB4, HK4⟩
  case round =>
    obtain ⟨j, hj, rfl, hown, HBR, HKR⟩ := hrel
    have HLj := HLEN.out j
    have f0 := HKR.out.cell 0
    have f3 : wr.cell? ⟨w.heap.size, 3, none⟩ = some (.slice A n c) := HKR.out.cell 3
    by_cases hlt : j < n
    · have hjl : j < l.length := HN.out ▸ hlt
      obtain ⟨b, off, hA, hbl, hC⟩ := (HR.out.below HBR.out).at_ j hjl
      subst hA
      have HSN := Lib.hid (show HX ++ bodyB false (l.take (j + 1)) = (((((HX ++ bodyB false (l.take j)) ++ fourZ (ordN false (l[j]).sec)) ++ fourZ (ordN false (l[j]).mic)) ++ fourZ (ordN false (l[j]).n)) ++ fourZ (ordN false (l[j]).sz)) ++ (l[j]).bs from by
        rw [take_snocR l j hjl, bodyB_snoc]
        simp only [wb, List.flatMap_cons, List.flatMap_nil, List.append_nil, List.append_assoc])
      have hlen : (HX ++ bodyB false (l.take j)).length ≤ 270000000 := by
        rw [List.length_append, HHL.out]
        have : (l.take j).length ≤ 4096 := by rw [List.length_take]; omega
        omega
      obtain ⟨hrow, hbl2, hnone, hn6⟩ := HHas.out l[j] (List.getElem_mem hjl)
      obtain ⟨o1, o2, o3, o4⟩ := HW.out l[j] (List.getElem_mem hjl)
      obtain ⟨X, hX⟩ : ∃ X, X = HX ++ bodyB false (l.take j) := ⟨_, rfl⟩
      rw [← hX] at hown hlen HSN
      obtain ⟨e, he⟩ : ∃ e, e = l[j] := ⟨_, rfl⟩
      rw [← he] at hC HSN hrow hbl2 hnone hn6 o1 o2 o3 o4
      have d0 : wr.cell? ⟨b, off + j * 4, none⟩ = some (.int .u32 (e.sec : Int)) := hC 0 (by omega)
      have d1 : wr.cell? ⟨b, off + j * 4 + 1, none⟩ = some (.int .u32 (e.mic : Int)) := hC 1 (by omega)
      have d2 : wr.cell? ⟨b, off + j * 4 + 2, none⟩ = some (.int .u32 (e.sz : Int)) := hC 2 (by omega)
      have d3 : wr.cell? ⟨b, off + j * 4 + 3, none⟩ = some (.slice e.A e.n e.c) := hC 3 (by omega)
      obtain ⟨wq, hwq⟩ : ∃ wq, wq = wr.alloc (.cells #[.int .u32 (e.sec : Int), .int .u32 (e.mic : Int), .int .u32 (e.sz : Int), .slice e.A e.n e.c] 38) := ⟨_, rfl⟩
      have HWQ := Lib.hid hwq
      obtain ⟨r, hrr⟩ : ∃ r, r = wr.heap.size := ⟨_, rfl⟩
      have HRR := Lib.hid hrr
      have HKQ := Lib.hid (show Blk wq w.heap.size 25 #[.bool false, .int .u32 (sn : Int), .int .u32 (link : Int), .slice (some ⟨b, off, none⟩) n c] from hwq ▸ HKR.out.alloc _)
      have HRQ := Lib.hid (show Blk wq r 38 #[.int .u32 (e.sec : Int), .int .u32 (e.mic : Int), .int .u32 (e.sz : Int), .slice e.A e.n e.c] from hwq ▸ hrr ▸ Blk.new wr _ _)
      have HBQ := Lib.hid (show Below w.heap.size w wq from hwq ▸ HBR.out.alloc HBR.out.size _)
      have HOQ := Lib.hid (show wq.ownsRow w.heap.size 5 1 _ X.length (X.map (.int .u8)) from hwq ▸ hown.alloc _)
      have SF := Lib.hid (show ∀ W : World, Blk W w.heap.size 25 #[.bool false, .int .u32 (sn : Int), .int .u32 (link : Int), .slice (some ⟨b, off, none⟩) n c] → Blk W r 38 #[.int .u32 (e.sec : Int), .int .u32 (e.mic : Int), .int .u32 (e.sz : Int), .slice e.A e.n e.c] → W.cell? ⟨w.heap.size, 0, none⟩ = some (.bool false) ∧ W.cell? ⟨r, 0, none⟩ = some (.int .u32 (e.sec : Int)) ∧ W.cell? ⟨r, 1, none⟩ = some (.int .u32 (e.mic : Int)) ∧ W.cell? ⟨r, 2, none⟩ = some (.int .u32 (e.sz : Int)) ∧ W.cell? ⟨r, 3, none⟩ = some (.slice e.A e.n e.c) from fun W h k => ⟨h.cell 0, k.cell 0, k.cell 1, k.cell 2, k.cell 3⟩)
      have j0 : (0 : Int) ≤ j := by omega
      have j1 : (j : Int) < n := by omega
      have hcv : IntKind.u32.wrap (e.n : Int) = (e.n : Int) := by rw [IntKind.wrap_u32]; omega
      have HROW := Lib.hid hrow
      have HBL := Lib.hid hbl2
      have HNONE := Lib.hid hnone
      have O1 := Lib.hid o1
      have O2 := Lib.hid o2
      have O3 := Lib.hid o3
      have ON := Lib.hid (show e.n < 4294967296 by omega)
      have L1 := Lib.hid (show X.length + 4 ≤ 1000000000 by omega)
      have L2 := Lib.hid (show (X ++ fourZ (ordN false e.sec)).length + 4 ≤ 1000000000 by rw [List.length_append, fourZ_len]; omega)
      have L3 := Lib.hid (show ((X ++ fourZ (ordN false e.sec)) ++ fourZ (ordN false e.mic)).length + 4 ≤ 1000000000 by rw [List.length_append, List.length_append, fourZ_len, fourZ_len]; omega)
      have L4 := Lib.hid (show (((X ++ fourZ (ordN false e.sec)) ++ fourZ (ordN false e.mic)) ++ fourZ (ordN false e.n)).length + 4 ≤ 1000000000 by rw [List.length_append, List.length_append, List.length_append, fourZ_len, fourZ_len, fourZ_len]; omega)
      have L5 := Lib.hid (show ((((X ++ fourZ (ordN false e.sec)) ++ fourZ (ordN false e.mic)) ++ fourZ (ordN false e.n)) ++ fourZ (ordN false e.sz)).length + e.n ≤ 300000000 by rw [List.length_append, List.length_append, List.length_append, List.length_append, fourZ_len, fourZ_len, fourZ_len, fourZ_len]; omega)
      clear hC hown hrow hbl2 hnone he hX hwq hrr o1 o2 o3 o4 HLj hlen hn6
      go_wp2_with fail
      rw [← HRR.out, ← HWQ.out]
      have sB5 := SF.out wq.drew HKQ.out HRQ.out
      go_region_held3 (fun w' => w'.cell? ⟨w.heap.size, 0, none⟩ = some (.bool false) ∧ w'.cell? ⟨r, 0, none⟩ = some (.int .u32 (e.sec : Int)) ∧ w'.cell? ⟨r, 1, none⟩ = some (.int .u32 (e.mic : Int)) ∧ w'.cell? ⟨r, 2, none⟩ = some (.int .u32 (e.sz : Int)) ∧ w'.cell? ⟨r, 3, none⟩ = some (.slice e.A e.n e.c)) (first | with_reducible assumption | exact sB5)
        (first
          | (go_at_call 23
             (first
              | (with_reducible refine (HF.out e.mic O2.out _ v5 _ HO5.out L2.out HB5.out).mono ?_)
              | (with_reducible refine (HF.out e.sec O1.out _ u3 _ (World.ownsRow.drew HOQ.out) L1.out HBQ.out.drew).mono ?_))
             rintro o w5 ⟨v5, rfl, ho, hb, hs, st⟩
             have hk : Blk w5 w.heap.size 25 #[.bool false, .int .u32 (sn : Int), .int .u32 (link : Int), .slice (some ⟨b, off, none⟩) n c] := st w.heap.size 25 #[.bool false, .int .u32 (sn : Int), .int .u32 (link : Int), .slice (some ⟨b, off, none⟩) n c] (by decide) (by first | exact HK5.out | exact HKQ.out.drew)
             have hr : Blk w5 r 38 #[.int .u32 (e.sec : Int), .int .u32 (e.mic : Int), .int .u32 (e.sz : Int), .slice e.A e.n e.c] := st r 38 #[.int .u32 (e.sec : Int), .int .u32 (e.mic : Int), .int .u32 (e.sz : Int), .slice e.A e.n e.c] (by decide) (by first | exact HR5.out | exact HRQ.out.drew)
             have s5 := SF.out w5 hk hr
             have HK5 := Lib.hid hk
             have HR5 := Lib.hid hr
             have HO5 := Lib.hid (own_as ho (List.map_append ..).symm)
             have HB5 := Lib.hid hb
             clear ho hb hs st hk hr))
      have s5' := SF.out w5 HK5.out HR5.out
      obtain ⟨q1, q2, q3, q4, q5⟩ := s5'
      go_wp2_with fail
      have sB6 := SF.out w5.drew HK5.out HR5.out
      go_region_held3 (fun w' => w'.cell? ⟨w.heap.size, 0, none⟩ = some (.bool false) ∧ w'.cell? ⟨r, 0, none⟩ = some (.int .u32 (e.sec : Int)) ∧ w'.cell? ⟨r, 1, none⟩ = some (.int .u32 (e.mic : Int)) ∧ w'.cell? ⟨r, 2, none⟩ = some (.int .u32 (e.sz : Int)) ∧ w'.cell? ⟨r, 3, none⟩ = some (.slice e.A e.n e.c)) (first | with_reducible assumption | exact sB6)
        (first
          | (go_at_call 23
             (first
              | (with_reducible refine (HF.out e.sz O3.out _ v6 _ HO6.out L4.out HB6.out).mono ?_)
              | (with_reducible refine (HF.out e.n ON.out _ v5 _ (World.ownsRow.drew HO5.out) L3.out HB5.out.drew).mono ?_))
             rintro o w6 ⟨v6, rfl, ho, hb, hs, st⟩
             have hk : Blk w6 w.heap.size 25 #[.bool false, .int .u32 (sn : Int), .int .u32 (link : Int), .slice (some ⟨b, off, none⟩) n c] := st w.heap.size 25 #[.bool false, .int .u32 (sn : Int), .int .u32 (link : Int), .slice (some ⟨b, off, none⟩) n c] (by decide) (by first | exact HK6.out | exact HK5.out.drew)
             have hr : Blk w6 r 38 #[.int .u32 (e.sec : Int), .int .u32 (e.mic : Int), .int .u32 (e.sz : Int), .slice e.A e.n e.c] := st r 38 #[.int .u32 (e.sec : Int), .int .u32 (e.mic : Int), .int .u32 (e.sz : Int), .slice e.A e.n e.c] (by decide) (by first | exact HR6.out | exact HR5.out.drew)
             have s6 := SF.out w6 hk hr
             have HK6 := Lib.hid hk
             have HR6 := Lib.hid hr
             have HO6 := Lib.hid (own_as ho (List.map_append ..).symm)
             have HB6 := Lib.hid hb
             clear ho hb hs st hk hr))
      obtain ⟨q1', q2', q3', q4', q5'⟩ := SF.out w6 HK6.out HR6.out
      have HRO := Lib.hid (HROW.out.below HB6.out)
      have HS6 := Lib.hid HB6.out.size
      have y3 : (e.bs.map (Value.int .u8)).length = e.n := by rw [List.length_map, HBL.out]
      have y4 := L5.out
      have Y1 := Lib.hid (show ((((X ++ fourZ (ordN false e.sec)) ++ fourZ (ordN false e.mic)) ++ fourZ (ordN false e.n)) ++ fourZ (ordN false e.sz)).length + e.n ≤ maxLen by unfold maxLen; omega)
      have Y2 := Lib.hid (show (((((X ++ fourZ (ordN false e.sec)) ++ fourZ (ordN false e.mic)) ++ fourZ (ordN false e.n)) ++ fourZ (ordN false e.sz)).length + e.n) * 1 ≤ 140737488355328 by omega)
      have Y3 := Lib.hid y3
      clear y3 y4 q1 q2 q3 q4 q5 sB5 sB6
      go_wp2_with (at_builtin; refine wpList_append_row rfl (.tmp 71) (.tmp 73) _ rfl w.heap.size 5 i0 _ 1 Try.underlying27 HI0.out HZ0.out HZ1.out HZ2.out rfl v6 _ _ rfl HO6.out e.A e.n e.c w.heap.size (e.bs.map (.int .u8)) rfl HNONE.out Y3.out HRO.out (one_u8 _) Y1.out Y2.out HS6.out ?_; intro va wa owna ga; have HOa := Lib.hid (own_as owna (List.map_append ..).symm); have HBa := Lib.hid (below_grown HB6.out HO6.out (Nat.le_refl _) HS6.out ga); have HKa := Lib.hid (HK6.out.grown ga (own_ne (by decide) HO6.out HK6.out)); clear owna ga)
      go_roundw
      case rel =>
        refine ⟨j + 1, by omega, by go_num, ?_, HBa, HKa⟩
        rw [HSN.out]
        exact HOa.out
      case measure => simp [intOf]; omega
    · obtain rfl : j = n := by omega
      have hz : l.take j = l := List.take_of_length_le (by rw [HN.out]; omega)
      rw [hz] at hown
      have HOwn := Lib.hid hown
      clear hown hz
      go_wp2_with fail
      go_ret
      exact ⟨_, rfl, HOwn.out, HBR.out⟩
theorem lbytes_any (big : Bool) (sn link : Nat) (A : Option Addr) (c : Nat) (l : List Rc) (w : World) (h1 : sn < 4294967296) (h2 : link < 4294967296) (hr : RdR w A l) (hw : ∀ e ∈ l, e.ok) (hh : ∀ e ∈ l, Has w e) (hl : l.length ≤ 4096) (hc1 : l.length ≤ c) (hc2 : c ≤ 9223372036854775807) :
    Calls Try.prog 13 #[.agg #[.bool big, .int .u32 (sn : Int), .int .u32 (link : Int), .slice A l.length c]] w (LBytesPost w (headB big sn link ++ bodyB big l)) := by
  cases big
  · exact lbytes_false sn link A c l w h1 h2 hr hw hh hl hc1 hc2
  · exact lbytes_true sn link A c l w h1 h2 hr hw hh hl hc1 hc2
end Go.Proofs.Ytmchedjeohhpcaa.pcapP
