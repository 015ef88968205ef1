/- 2 texts in one. -/
import Derived.Deep.RegionHeld3
import Derived.Test.YtodckfgfbcnkoaaNa23
import Derived.Test.YtodckfgfbcnkoaaNa31
/- Layer 13: bytes that are cut to so many. -/
namespace Go.Proofs.Ytodckfgfbcnkoaa.pktCut
open Go.ChangeShapes Go.WideShapes Go.ChangeAt Go.RowKit
open rdrG sumB sixF
set_option linter.unusedVariables false
theorem cut_any (A:Option Addr) (n c:Nat) (w:World) (hA:0 < n → ∃ b off,A = some ⟨b,off,none⟩) (hnc:n ≤ c) (hc:c ≤ 9223372036854775807) :
    Calls Try.prog 10 #[.slice A n c] w fun o w' => o = .returned (.slice A (min n 500) c)∧w = w' := by
  by_cases h:500 < n
  · obtain ⟨b,off,rfl⟩ := hA (by omega)
    obtain ⟨s1,s2⟩ := slice_to b off n c 500 (by omega) (by omega)
    have t1:decide (500 < (n:Int)) = true := decide_eq_true (by omega)
    have t1n:decide (500 < n) = true := decide_eq_true h
    have e:min n 500 = 500 := by omega
    rw [e]
    have s1:∀ W:World,(Instr.slice 22 (.slice (some ⟨b,off,none⟩) n c) none (some (.int .i64 500)) none).run Try.prog W = .ok (.slice (some ⟨b,off,none⟩) 500 c) W := s1
    have s2:∀ W:World,(Instr.sliceAt 22 (.slice (some ⟨b,off,none⟩) n c) none (some (.int .i64 500)) none).run Try.prog W = .ok (.slice (some ⟨b,off,none⟩) 500 c) W := s2
    clear e hA
    go_enter Try.func10,Try.ntmps10
    go_wp2_with fail
    go_ret
    exact ⟨rfl,rfl⟩
  · have t1:decide (500 < (n:Int)) = false := decide_eq_false (by omega)
    have t1n:decide (500 < n) = false := decide_eq_false h
    have e:min n 500 = n := by omega
    rw [e]
    clear e hA
    go_enter Try.func10,Try.ntmps10
    go_wp2_with fail
    go_ret
    exact ⟨rfl,rfl⟩
end Go.Proofs.Ytodckfgfbcnkoaa.pktCut
/- Layer 15: the example; a flow with another side. -/
namespace Go.Proofs.Ytodckfgfbcnkoaa.natF
set_option maxHeartbeats 4000000
set_option maxRecDepth 100000
open Go.ChangeShapes Go.WideShapes Go.ChangeAt Go.RowKit
open base octA rdrA rdrG sumB sixW sixM pktA pktB pktC pktD pktE sixE pktG  natA natE pktS
set_option linter.unusedVariables false
set_option linter.unusedSimpArgs false
theorem tpz:(Try.prog.info? 34).map (·.size) = some 9 := by kernel_rfl
theorem awake_any (w:World):Calls Try.prog 23 #[] w fun o w' => o = .returned (.bool true)∧Below w.heap.size w w' := by
  obtain ⟨B,hB1,_,hB3,hB4⟩ := dgram_made 17 false 0 0 false 0 167772161 0 0 9 0 [] (by simp) (fun x hx => by cases hx) (by omega) (by omega) (by omega) (by omega) ⟨rfl,rfl,by omega,by omega,by omega,.inr ⟨rfl,rfl,by omega,by omega⟩⟩
  have hBl:B.length = 28 := by rw [hB1]; rfl
  have HD := Lib.hid (fun V => hB4 none 0 0 V (Sl.none_ V))
  have hBu:∀ V A n c,Sl V A n c B → U8 B := fun V A n c h => h.u8
  by_cases hu:U8 B
  · obtain ⟨X,hX1,hX2,hX3,hX4,_,hX6⟩ := turn_good B hu (by omega) _ hB3 rfl 1 (by omega) 0 167772162 7 (by omega) (by omega) (by omega) (by omega) (by omega) (by omega) (by rfl)
    have HT := Lib.hid hX6
    have HP := Lib.hid (fun V A n c (h:Sl V A n c X) => parse_any A n c X V h (by have := h.len; omega))
    rw [hX1] at HP
    have HV := Lib.hid (fun (k:Int) (h:0 ≤ k) (h2:k ≤ 4294967295) (V:World) => fourA.v4_any k h h2 V)
    obtain ⟨Y,hY⟩:∃ Y:Array Value,Y = #[.bool false,.int .i64 17,.bool false,.int .u64 0,.int .u64 0,.bool false,.int .u64 0,.int .u64 167772162,.int .i64 0,.int .i64 7,.int .i64 9,.int .i64 0,.bool false,.int .i64 zeroT.pr,.bool zeroT.s6,.int .u64 zeroT.sh,.int .u64 zeroT.sl,.bool zeroT.d6,.int .u64 zeroT.dh,.int .u64 zeroT.dl,.int .i64 zeroT.sp,.int .i64 zeroT.dp,.int .i64 (B.length:Int)] := ⟨_,rfl⟩
    have HPY := Lib.hid (show ∀ V A n c,Sl V A n c X → Calls Try.prog 14 #[.slice A n c] V fun o w' => o = .returned (.tuple #[.agg Y,.int .i64 0])∧Below V.heap.size V w' from fun V A n c h => by rw [hY]; exact HP.out V A n c h)
    have ys:Y.size = 23 := by rw [hY]; rfl
    have ONE := Lib.hid (show Y.all (·.oneCell') = true from by rw [hY]; simp [Value.oneCell'])
    have HIY := Lib.hid (show (Try.prog.info? 36).map (·.size) = some Y.size from by rw [ys]; exact pk_size)
    have ZY := Lib.hid (show (#[.bool false,.int .i64 0,.bool false,.int .u64 0,.int .u64 0,.bool false,.int .u64 0,.int .u64 0,.int .i64 0,.int .i64 0,.int .i64 0,.int .i64 0,.bool false,.int .i64 0,.bool false,.int .u64 0,.int .u64 0,.bool false,.int .u64 0,.int .u64 0,.int .i64 0,.int .i64 0,.int .i64 0]:Array Value).size = Y.size from by rw [ys]; rfl)
    have HY := Lib.hid hY
    clear hB1 hB3 hB4 hBl hBu hu hX1 hX2 hX3 hX4 hX6 HP hY ys
    go_enter Try.func23,Try.ntmps23
    go_wp2_with fail
    refine (HV.out 167772161 (by omega) (by omega) _).mono ?_
    rintro o w1 ⟨rfl,hb1⟩
    have B1 := Lib.hid hb1
    clear hb1
    go_wp2_with fail
    refine (HD.out _).mono ?_
    rintro o w2 ⟨hb2,A2,n2,c2,rfl,hs2⟩
    have B2 := Lib.hid (B1.out.trans (hb2.mono B1.out.size))
    have S2 := Lib.hid hs2
    clear hb2 hs2
    go_wp2_with fail
    refine (HV.out 167772162 (by omega) (by omega) _).mono ?_
    rintro o w3 ⟨rfl,hb3⟩
    have B3 := Lib.hid (B2.out.trans (hb3.mono B2.out.size))
    have S3 := Lib.hid (S2.out.below hb3)
    clear hb3
    go_wp2_with fail
    refine (HT.out _ _ _ _ S3.out).mono ?_
    rintro o w4 ⟨hb4,A4,n4,c4,rfl,hs4⟩
    have B4 := Lib.hid (B3.out.trans (hb4.mono B3.out.size))
    have S4 := Lib.hid hs4
    clear hb4 hs4
    go_wp2_with fail
    refine (HPY.out _ _ _ _ S4.out).mono ?_
    rintro o w5 ⟨rfl,hb5⟩
    obtain ⟨w6,hw6⟩:∃ w6,w6 = (w5.alloc (.cells #[.bool false,.int .i64 0,.bool false,.int .u64 0,.int .u64 0,.bool false,.int .u64 0,.int .u64 0,.int .i64 0,.int .i64 0,.int .i64 0,.int .i64 0,.bool false,.int .i64 0,.bool false,.int .u64 0,.int .u64 0,.bool false,.int .u64 0,.int .u64 0,.int .i64 0,.int .i64 0,.int .i64 0] 36)).setRow w5.heap.size Y := ⟨_,rfl⟩
    obtain ⟨g,hg⟩:∃ g,g = w5.heap.size := ⟨_,rfl⟩
    have E6 := Lib.hid hw6
    have EG := Lib.hid hg
    have K6 := Lib.hid (show Blk w6 g 36 Y from by rw [hw6,hg]; exact blkRow (Blk.new w5 _ _) _)
    have B56 := Lib.hid (show Below w5.heap.size w5 w6 from by rw [hw6]; exact (onlyRow _).from ((Below.refl _ _).alloc (Nat.le_refl _) _) (Nat.le_refl _))
    have B6 := Lib.hid ((B4.out.trans (hb5.mono B4.out.size)).trans (B56.out.mono (B4.out.trans (hb5.mono B4.out.size)).size))
    clear hw6 hg hb5
    go_upto_region 4 with (refine wpList_store_row rfl 36 _ _ rfl w5.heap.size Y rfl rfl 36 #[.bool false,.int .i64 0,.bool false,.int .u64 0,.int .u64 0,.bool false,.int .u64 0,.int .u64 0,.int .i64 0,.int .i64 0,.int .i64 0,.int .i64 0,.bool false,.int .i64 0,.bool false,.int .u64 0,.int .u64 0,.bool false,.int .u64 0,.int .u64 0,.int .i64 0,.int .i64 0,.int .i64 0] (Blk.new w5 _ _) HIY.out ZY.out ONE.out ?_)
    rw [← E6.out,← EG.out]
    have HSF := Lib.hid (show ∀ V,Below w6.heap.size w6 V → (V.cell? ⟨g,5,none⟩ = some (.bool false)∧V.cell? ⟨g,6,none⟩ = some (.int .u64 0)∧V.cell? ⟨g,7,none⟩ = some (.int .u64 167772162)∧V.cell? ⟨g,9,none⟩ = some (.int .i64 7)) from fun V hV => by
      have h := K6.out.below hV K6.out.lt
      rw [HY.out] at h
      exact ⟨h.cell 5,h.cell 6,h.cell 7,h.cell 9⟩)
    have HS0 := Lib.hid (HSF.out w6.drew (Below.refl _ _).drew)
    go_region_held3 (fun V => V.cell? ⟨g,5,none⟩ = some (.bool false)∧V.cell? ⟨g,6,none⟩ = some (.int .u64 0)∧V.cell? ⟨g,7,none⟩ = some (.int .u64 167772162)∧V.cell? ⟨g,9,none⟩ = some (.int .i64 7)) (first | with_reducible assumption | with_reducible exact HS0.out | with_reducible exact HS7.out) (first | (go_at_call 34; (with_reducible refine (HV.out 167772162 (by omega) (by omega) _).mono ?_); rintro o w7 ⟨rfl,hb7⟩; have B67 := Lib.hid ((Below.refl w6.heap.size w6).drew.trans (hb7.mono (Nat.le_refl _))); have HS7 := Lib.hid (HSF.out w7 B67.out); clear hb7))
    go_wp2_with fail
    go_ret
    exact ⟨rfl,B6.out.trans (B67.out.mono B6.out.size)⟩
  · -- a call that gives these bytes says that they are bytes
    have HN:∀ V,Calls Try.prog 26 #[.agg #[.int .i64 17,.bool false,.int .u64 0,.int .u64 0,.bool false,.int .u64 0,.int .u64 167772161,.int .i64 0,.int .i64 0],.int .i64 9,.slice none 0 0] V fun o w' => False := fun V => (HD.out V).mono fun o w' k => by
      obtain ⟨_,A,n,c,_,hs⟩ := k
      exact hu hs.u8
    have HV := Lib.hid (fun (k:Int) (h:0 ≤ k) (h2:k ≤ 4294967295) (V:World) => fourA.v4_any k h h2 V)
    have HN2 := Lib.hid HN
    clear hB1 hB3 hB4 hBl hBu hu HN HD
    go_enter Try.func23,Try.ntmps23
    go_wp2_with fail
    refine (HV.out 167772161 (by omega) (by omega) _).mono ?_
    rintro o w1 ⟨rfl,hb1⟩
    go_wp2_with fail
    refine (HN2.out _).mono ?_
    rintro o w2 h
    exact h.elim
theorem turned_0 (pr:Int) (s6:Bool) (sh sl:Int) (d6:Bool) (dh dl sp dp:Int) (t6:Bool) (th tl port:Int) (w:World) :
    Calls Try.prog 24 #[.agg #[.int .i64 pr,.bool s6,.int .u64 sh,.int .u64 sl,.bool d6,.int .u64 dh,.int .u64 dl,.int .i64 sp,.int .i64 dp],.int .i64 0,.agg #[.bool t6,.int .u64 th,.int .u64 tl],.int .i64 port] w fun o w' => o = .returned (.agg #[.int .i64 pr,.bool t6,.int .u64 th,.int .u64 tl,.bool d6,.int .u64 dh,.int .u64 dl,.int .i64 port,.int .i64 dp])∧Below w.heap.size w w' := by
  obtain ⟨w0,hw0⟩:∃ w0,w0 = w.alloc (.cells #[.int .i64 pr,.bool s6,.int .u64 sh,.int .u64 sl,.bool d6,.int .u64 dh,.int .u64 dl,.int .i64 sp,.int .i64 dp] 34) := ⟨_,rfl⟩
  obtain ⟨w1,hw1⟩:∃ w1,w1 = w0.alloc (.cells #[.bool t6,.int .u64 th,.int .u64 tl] 32) := ⟨_,rfl⟩
  obtain ⟨w2,hw2⟩:∃ w2,w2 = w1.alloc (.cells #[.int .i64 0,.bool false,.int .u64 0,.int .u64 0,.bool false,.int .u64 0,.int .u64 0,.int .i64 0,.int .i64 0] 34) := ⟨_,rfl⟩
  obtain ⟨a,ha⟩:∃ a,a = w.heap.size := ⟨_,rfl⟩
  obtain ⟨b,hb⟩:∃ b,b = a + 1 := ⟨_,rfl⟩
  obtain ⟨r,hr⟩:∃ r,r = b + 1 := ⟨_,rfl⟩
  have E0 := Lib.hid hw0
  have E1 := Lib.hid hw1
  have E2 := Lib.hid hw2
  have EA := Lib.hid ha
  have EB := Lib.hid hb
  have ER := Lib.hid hr
  have z0:w0.heap.size = a + 1 := by rw [hw0,ha]; simp
  have z1:w1.heap.size = a + 1 + 1 := by rw [hw1]; simp [z0]
  have KA := Lib.hid (show Blk w2 a 34 #[.int .i64 pr,.bool s6,.int .u64 sh,.int .u64 sl,.bool d6,.int .u64 dh,.int .u64 dl,.int .i64 sp,.int .i64 dp] from by rw [hw2,hw1,hw0,ha]; exact ((Blk.new w _ _).alloc _).alloc _)
  have KB := Lib.hid (show Blk w2 b 32 #[.bool t6,.int .u64 th,.int .u64 tl] from by rw [hb,← z0,hw2,hw1]; exact (Blk.new w0 _ _).alloc _)
  have KR := Lib.hid (show Blk w2 r 34 #[.int .i64 0,.bool false,.int .u64 0,.int .u64 0,.bool false,.int .u64 0,.int .u64 0,.int .i64 0,.int .i64 0] from by rw [hr,hb,← z1,hw2]; exact Blk.new w1 _ _)
  have B2 := Lib.hid (show Below w.heap.size w w2 from by rw [hw2,hw1,hw0]; exact (((Below.refl _ _).alloc (Nat.le_refl _) _).alloc (by simp) _).alloc (by simp; omega) _)
  have NE := Lib.hid (show r ≠ a from by omega)
  clear hw0 hw1 hw2 ha hb hr z0 z1
  have HIT := Lib.hid tpz
  have x0 := KB.out.cell 0
  have x1 := KB.out.cell 1
  have x2 := KB.out.cell 2
  have y1 := KA.out.cell 1
  have f1 := KA.out.frozen 1
  have y2 := KA.out.cell 2
  have f2 := KA.out.frozen 2
  have y3 := KA.out.cell 3
  have f3 := KA.out.frozen 3
  have y7 := KA.out.cell 7
  have f7 := KA.out.frozen 7
  go_enter Try.func24,Try.ntmps24
  go_upto_region 1 with fail
  rw [← E0.out,← EA.out,← EB.out,← E1.out,← ER.out,← E2.out]
  obtain ⟨w3,hw3⟩:∃ w3,w3 = ((((w2.setCell ⟨a,1,none⟩ (.bool t6)).setCell ⟨a,2,none⟩ (.int .u64 th)).setCell ⟨a,3,none⟩ (.int .u64 tl)).setCell ⟨a,7,none⟩ (.int .i64 port)) := ⟨_,rfl⟩
  have E3 := Lib.hid hw3
  have q0 := Blk.set_ (KA.out) 1 (.bool t6)
  have q1 := Blk.set_ (q0) 2 (.int .u64 th)
  have q2 := Blk.set_ (q1) 3 (.int .u64 tl)
  have q3 := Blk.set_ (q2) 7 (.int .i64 port)
  have K3 := Lib.hid (show Blk w3 a 34 #[.int .i64 pr,.bool t6,.int .u64 th,.int .u64 tl,.bool d6,.int .u64 dh,.int .u64 dl,.int .i64 port,.int .i64 dp] from by rw [hw3]; exact q3)
  have R3 := Lib.hid (show Blk w3 r 34 #[.int .i64 0,.bool false,.int .u64 0,.int .u64 0,.bool false,.int .u64 0,.int .u64 0,.int .i64 0,.int .i64 0] from by rw [hw3]; exact (((KR.out.far (p := ⟨a,1,none⟩) NE.out _).far (p := ⟨a,2,none⟩) NE.out _).far (p := ⟨a,3,none⟩) NE.out _).far (p := ⟨a,7,none⟩) NE.out _)
  have B3 := Lib.hid (show Below w.heap.size w w3 from by
    have e := EA.out
    rw [hw3]
    exact (((B2.out.setCell (p := ⟨a,1,none⟩) (Nat.le_of_eq e.symm) _).setCell (p := ⟨a,2,none⟩) (Nat.le_of_eq e.symm) _).setCell (p := ⟨a,3,none⟩) (Nat.le_of_eq e.symm) _).setCell (p := ⟨a,7,none⟩) (Nat.le_of_eq e.symm) _)
  clear q0 q1 q2 q3 hw3
  go_upto_region 6 with fail
  rw [← E3.out]
  go_wp2_with (first
    | (refine wpList_load_row rfl 34 _ rfl a rfl 34 #[.int .i64 pr,.bool t6,.int .u64 th,.int .u64 tl,.bool d6,.int .u64 dh,.int .u64 dl,.int .i64 port,.int .i64 dp] (0,0) _ K3.out Try.underlying34 rfl HIT.out ?_)
    | (refine wpList_store_row rfl 34 _ _ rfl r #[.int .i64 pr,.bool t6,.int .u64 th,.int .u64 tl,.bool d6,.int .u64 dh,.int .u64 dl,.int .i64 port,.int .i64 dp] rfl rfl 34 #[.int .i64 0,.bool false,.int .u64 0,.int .u64 0,.bool false,.int .u64 0,.int .u64 0,.int .i64 0,.int .i64 0] R3.out HIT.out rfl (by kernel_rfl) ?_))
  refine bodyPost_ret (results_cell_row rfl _ _ r 34 #[.int .i64 pr,.bool t6,.int .u64 th,.int .u64 tl,.bool d6,.int .u64 dh,.int .u64 dl,.int .i64 port,.int .i64 dp] (0,0) _ rfl (blkRow R3.out _) Try.underlying34 rfl HIT.out) rfl ?_
  exact ⟨rfl,(onlyRow _).from B3.out (by have := EA.out; have := EB.out; have := ER.out; omega)⟩
theorem turned_1 (pr:Int) (s6:Bool) (sh sl:Int) (d6:Bool) (dh dl sp dp:Int) (s:Int) (hs:s ≠ 0) (t6:Bool) (th tl port:Int) (w:World) :
    Calls Try.prog 24 #[.agg #[.int .i64 pr,.bool s6,.int .u64 sh,.int .u64 sl,.bool d6,.int .u64 dh,.int .u64 dl,.int .i64 sp,.int .i64 dp],.int .i64 s,.agg #[.bool t6,.int .u64 th,.int .u64 tl],.int .i64 port] w fun o w' => o = .returned (.agg #[.int .i64 pr,.bool s6,.int .u64 sh,.int .u64 sl,.bool t6,.int .u64 th,.int .u64 tl,.int .i64 sp,.int .i64 port])∧Below w.heap.size w w' := by
  have ts:(s == 0) = false := by simpa using hs
  clear hs
  obtain ⟨w0,hw0⟩:∃ w0,w0 = w.alloc (.cells #[.int .i64 pr,.bool s6,.int .u64 sh,.int .u64 sl,.bool d6,.int .u64 dh,.int .u64 dl,.int .i64 sp,.int .i64 dp] 34) := ⟨_,rfl⟩
  obtain ⟨w1,hw1⟩:∃ w1,w1 = w0.alloc (.cells #[.bool t6,.int .u64 th,.int .u64 tl] 32) := ⟨_,rfl⟩
  obtain ⟨w2,hw2⟩:∃ w2,w2 = w1.alloc (.cells #[.int .i64 0,.bool false,.int .u64 0,.int .u64 0,.bool false,.int .u64 0,.int .u64 0,.int .i64 0,.int .i64 0] 34) := ⟨_,rfl⟩
  obtain ⟨a,ha⟩:∃ a,a = w.heap.size := ⟨_,rfl⟩
  obtain ⟨b,hb⟩:∃ b,b = a + 1 := ⟨_,rfl⟩
  obtain ⟨r,hr⟩:∃ r,r = b + 1 := ⟨_,rfl⟩
  have E0 := Lib.hid hw0
  have E1 := Lib.hid hw1
  have E2 := Lib.hid hw2
  have EA := Lib.hid ha
  have EB := Lib.hid hb
  have ER := Lib.hid hr
  have z0:w0.heap.size = a + 1 := by rw [hw0,ha]; simp
  have z1:w1.heap.size = a + 1 + 1 := by rw [hw1]; simp [z0]
  have KA := Lib.hid (show Blk w2 a 34 #[.int .i64 pr,.bool s6,.int .u64 sh,.int .u64 sl,.bool d6,.int .u64 dh,.int .u64 dl,.int .i64 sp,.int .i64 dp] from by rw [hw2,hw1,hw0,ha]; exact ((Blk.new w _ _).alloc _).alloc _)
  have KB := Lib.hid (show Blk w2 b 32 #[.bool t6,.int .u64 th,.int .u64 tl] from by rw [hb,← z0,hw2,hw1]; exact (Blk.new w0 _ _).alloc _)
  have KR := Lib.hid (show Blk w2 r 34 #[.int .i64 0,.bool false,.int .u64 0,.int .u64 0,.bool false,.int .u64 0,.int .u64 0,.int .i64 0,.int .i64 0] from by rw [hr,hb,← z1,hw2]; exact Blk.new w1 _ _)
  have B2 := Lib.hid (show Below w.heap.size w w2 from by rw [hw2,hw1,hw0]; exact (((Below.refl _ _).alloc (Nat.le_refl _) _).alloc (by simp) _).alloc (by simp; omega) _)
  have NE := Lib.hid (show r ≠ a from by omega)
  clear hw0 hw1 hw2 ha hb hr z0 z1
  have HIT := Lib.hid tpz
  have x0 := KB.out.cell 0
  have x1 := KB.out.cell 1
  have x2 := KB.out.cell 2
  have y4 := KA.out.cell 4
  have f4 := KA.out.frozen 4
  have y5 := KA.out.cell 5
  have f5 := KA.out.frozen 5
  have y6 := KA.out.cell 6
  have f6 := KA.out.frozen 6
  have y8 := KA.out.cell 8
  have f8 := KA.out.frozen 8
  go_enter Try.func24,Try.ntmps24
  go_upto_region 1 with fail
  rw [← E0.out,← EA.out,← EB.out,← E1.out,← ER.out,← E2.out]
  obtain ⟨w3,hw3⟩:∃ w3,w3 = ((((w2.setCell ⟨a,4,none⟩ (.bool t6)).setCell ⟨a,5,none⟩ (.int .u64 th)).setCell ⟨a,6,none⟩ (.int .u64 tl)).setCell ⟨a,8,none⟩ (.int .i64 port)) := ⟨_,rfl⟩
  have E3 := Lib.hid hw3
  have q0 := Blk.set_ (KA.out) 4 (.bool t6)
  have q1 := Blk.set_ (q0) 5 (.int .u64 th)
  have q2 := Blk.set_ (q1) 6 (.int .u64 tl)
  have q3 := Blk.set_ (q2) 8 (.int .i64 port)
  have K3 := Lib.hid (show Blk w3 a 34 #[.int .i64 pr,.bool s6,.int .u64 sh,.int .u64 sl,.bool t6,.int .u64 th,.int .u64 tl,.int .i64 sp,.int .i64 port] from by rw [hw3]; exact q3)
  have R3 := Lib.hid (show Blk w3 r 34 #[.int .i64 0,.bool false,.int .u64 0,.int .u64 0,.bool false,.int .u64 0,.int .u64 0,.int .i64 0,.int .i64 0] from by rw [hw3]; exact (((KR.out.far (p := ⟨a,4,none⟩) NE.out _).far (p := ⟨a,5,none⟩) NE.out _).far (p := ⟨a,6,none⟩) NE.out _).far (p := ⟨a,8,none⟩) NE.out _)
  have B3 := Lib.hid (show Below w.heap.size w w3 from by
    have e := EA.out
    rw [hw3]
    exact (((B2.out.setCell (p := ⟨a,4,none⟩) (Nat.le_of_eq e.symm) _).setCell (p := ⟨a,5,none⟩) (Nat.le_of_eq e.symm) _).setCell (p := ⟨a,6,none⟩) (Nat.le_of_eq e.symm) _).setCell (p := ⟨a,8,none⟩) (Nat.le_of_eq e.symm) _)
  clear q0 q1 q2 q3 hw3
  go_upto_region 6 with fail
  rw [← E3.out]
  go_wp2_with (first
    | (refine wpList_load_row rfl 34 _ rfl a rfl 34 #[.int .i64 pr,.bool s6,.int .u64 sh,.int .u64 sl,.bool t6,.int .u64 th,.int .u64 tl,.int .i64 sp,.int .i64 port] (0,0) _ K3.out Try.underlying34 rfl HIT.out ?_)
    | (refine wpList_store_row rfl 34 _ _ rfl r #[.int .i64 pr,.bool s6,.int .u64 sh,.int .u64 sl,.bool t6,.int .u64 th,.int .u64 tl,.int .i64 sp,.int .i64 port] rfl rfl 34 #[.int .i64 0,.bool false,.int .u64 0,.int .u64 0,.bool false,.int .u64 0,.int .u64 0,.int .i64 0,.int .i64 0] R3.out HIT.out rfl (by kernel_rfl) ?_))
  refine bodyPost_ret (results_cell_row rfl _ _ r 34 #[.int .i64 pr,.bool s6,.int .u64 sh,.int .u64 sl,.bool t6,.int .u64 th,.int .u64 tl,.int .i64 sp,.int .i64 port] (0,0) _ rfl (blkRow R3.out _) Try.underlying34 rfl HIT.out) rfl ?_
  exact ⟨rfl,(onlyRow _).from B3.out (by have := EA.out; have := EB.out; have := ER.out; omega)⟩
theorem results_whole {fn:Func} {p u:Tmp} (h:fn.results = #[.cell p 34,.tmp u]) (tmps:Array Value) (w:World) (g:Nat) (cs:Array Value) (hp:tmps.getD p undef = .pointer (some ⟨g,0,none⟩)) (hg:Blk w g 34 cs) (hs:cs.size = 9) :
    (results fn tmps).run Try.prog w = .ok (.tuple #[.agg cs,tmps.getD u undef]) w := by
  rw [results_cell_tmp h,hp]
  simp only [asAddr,Sem.run_pure,Result.andThen_ok]
  rw [run_loadVar_row w g 34 34 cs (0,0) _ hg Try.underlying34 rfl (by rw [hs]; exact tpz)]
  rfl
theorem whole_e (A:Option Addr) (n c:Nat) (s:Int) (t6:Bool) (th tl port:Int) (v6:Bool) (pr:Int) (s6:Bool) (sh sl:Int) (d6:Bool) (dh dl sp dp ttl fl:Int) (er:Bool) (apr:Int) (as6:Bool) (ash asl:Int) (ad6:Bool) (adh adl asp adp sz:Int) (e:Int) (he:e ≠ 0) (w:World)
    (HP:Hid (∀ V,Below w.heap.size w V → Calls Try.prog 14 #[.slice A n c] V fun o w' => o = .returned (.tuple #[.agg #[.bool v6,.int .i64 pr,.bool s6,.int .u64 sh,.int .u64 sl,.bool d6,.int .u64 dh,.int .u64 dl,.int .i64 sp,.int .i64 dp,.int .i64 ttl,.int .i64 fl,.bool er,.int .i64 apr,.bool as6,.int .u64 ash,.int .u64 asl,.bool ad6,.int .u64 adh,.int .u64 adl,.int .i64 asp,.int .i64 adp,.int .i64 sz],.int .i64 e])∧Below V.heap.size V w')) :
    Calls Try.prog 28 #[.slice A n c,.int .i64 s,.agg #[.bool t6,.int .u64 th,.int .u64 tl],.int .i64 port] w fun o w' => o = .returned (.tuple #[.agg #[.int .i64 0,.bool false,.int .u64 0,.int .u64 0,.bool false,.int .u64 0,.int .u64 0,.int .i64 0,.int .i64 0],.int .i64 e])∧Below w.heap.size w w' := by
  have te:(e != 0) = true := by simpa using he
  clear he
  obtain ⟨Y,hY⟩:∃ Y:Array Value,Y = #[.bool v6,.int .i64 pr,.bool s6,.int .u64 sh,.int .u64 sl,.bool d6,.int .u64 dh,.int .u64 dl,.int .i64 sp,.int .i64 dp,.int .i64 ttl,.int .i64 fl,.bool er,.int .i64 apr,.bool as6,.int .u64 ash,.int .u64 asl,.bool ad6,.int .u64 adh,.int .u64 adl,.int .i64 asp,.int .i64 adp,.int .i64 sz] := ⟨_,rfl⟩
  have ys:Y.size = 23 := by rw [hY]; rfl
  have ONE := Lib.hid (show Y.all (·.oneCell') = true from by rw [hY]; simp [Value.oneCell'])
  have HIY := Lib.hid (show (Try.prog.info? 36).map (·.size) = some Y.size from by rw [ys]; exact pk_size)
  have ZY := Lib.hid (show (#[.bool false,.int .i64 0,.bool false,.int .u64 0,.int .u64 0,.bool false,.int .u64 0,.int .u64 0,.int .i64 0,.int .i64 0,.int .i64 0,.int .i64 0,.bool false,.int .i64 0,.bool false,.int .u64 0,.int .u64 0,.bool false,.int .u64 0,.int .u64 0,.int .i64 0,.int .i64 0,.int .i64 0]:Array Value).size = Y.size from by rw [ys]; rfl)
  rw [← hY] at HP
  have HY := Lib.hid hY
  have HIT := Lib.hid tpz
  clear hY ys
  obtain ⟨w1,hw1⟩:∃ w1,w1 = w.alloc (.cells #[.bool t6,.int .u64 th,.int .u64 tl] 32) := ⟨_,rfl⟩
  obtain ⟨w2,hw2⟩:∃ w2,w2 = w1.alloc (.cells #[.int .i64 0,.bool false,.int .u64 0,.int .u64 0,.bool false,.int .u64 0,.int .u64 0,.int .i64 0,.int .i64 0] 34) := ⟨_,rfl⟩
  obtain ⟨p,hp⟩:∃ p,p = w.heap.size := ⟨_,rfl⟩
  obtain ⟨r,hr⟩:∃ r,r = p + 1 := ⟨_,rfl⟩
  have E1 := Lib.hid hw1
  have E2 := Lib.hid hw2
  have EP := Lib.hid hp
  have ER := Lib.hid hr
  have z1:w1.heap.size = p + 1 := by rw [hw1,hp]; simp
  have KT2 := Lib.hid (show Blk w2 p 32 #[.bool t6,.int .u64 th,.int .u64 tl] from by rw [hw2,hw1,hp]; exact (Blk.new w _ _).alloc _)
  have KR2 := Lib.hid (show Blk w2 r 34 #[.int .i64 0,.bool false,.int .u64 0,.int .u64 0,.bool false,.int .u64 0,.int .u64 0,.int .i64 0,.int .i64 0] from by rw [hr,← z1,hw2]; exact Blk.new w1 _ _)
  have B2 := Lib.hid (show Below w.heap.size w w2 from by rw [hw2,hw1]; exact ((Below.refl _ _).alloc (Nat.le_refl _) _).alloc (by simp) _)
  clear hw1 hw2 hp hr z1
  go_enter Try.func28,Try.ntmps28
  go_upto_region 1 with fail
  rw [← E1.out,← EP.out,← ER.out,← E2.out]
  go_wp2_with fail
  refine (HP.out _ B2.out).mono ?_
  rintro o w3 ⟨rfl,hb3⟩
  obtain ⟨w4,hw4⟩:∃ w4,w4 = (w3.alloc (.cells #[.bool false,.int .i64 0,.bool false,.int .u64 0,.int .u64 0,.bool false,.int .u64 0,.int .u64 0,.int .i64 0,.int .i64 0,.int .i64 0,.int .i64 0,.bool false,.int .i64 0,.bool false,.int .u64 0,.int .u64 0,.bool false,.int .u64 0,.int .u64 0,.int .i64 0,.int .i64 0,.int .i64 0] 36)).setRow w3.heap.size Y := ⟨_,rfl⟩
  obtain ⟨g,hg⟩:∃ g,g = w3.heap.size := ⟨_,rfl⟩
  have E4 := Lib.hid hw4
  have EG := Lib.hid hg
  have KP4 := Lib.hid (show Blk w4 g 36 Y from by rw [hw4,hg]; exact blkRow (Blk.new w3 _ _) _)
  have B34 := Lib.hid (show Below w3.heap.size w3 w4 from by rw [hw4]; exact (onlyRow _).from ((Below.refl _ _).alloc (Nat.le_refl _) _) (Nat.le_refl _))
  have B24 := Lib.hid (hb3.trans (B34.out.mono hb3.size))
  have KT4 := Lib.hid (KT2.out.below B24.out KT2.out.lt)
  have KR4 := Lib.hid (KR2.out.below B24.out KR2.out.lt)
  have B4 := Lib.hid (B2.out.trans (B24.out.mono B2.out.size))
  have NE := Lib.hid (show r ≠ g from by have := KR2.out.lt; have := hb3.size; omega)
  have B3S := Lib.hid hb3.size
  clear hw4 hg hb3
  go_upto_region 2 with (refine wpList_store_row rfl 36 _ _ rfl w3.heap.size Y rfl rfl 36 #[.bool false,.int .i64 0,.bool false,.int .u64 0,.int .u64 0,.bool false,.int .u64 0,.int .u64 0,.int .i64 0,.int .i64 0,.int .i64 0,.int .i64 0,.bool false,.int .i64 0,.bool false,.int .u64 0,.int .u64 0,.bool false,.int .u64 0,.int .u64 0,.int .i64 0,.int .i64 0,.int .i64 0] (Blk.new w3 _ _) HIY.out ZY.out ONE.out ?_)
  rw [← E4.out,← EG.out]
  go_wp2_with (refine wpList_store_row rfl 34 _ _ rfl r #[.int .i64 0,.bool false,.int .u64 0,.int .u64 0,.bool false,.int .u64 0,.int .u64 0,.int .i64 0,.int .i64 0] rfl rfl 34 #[.int .i64 0,.bool false,.int .u64 0,.int .u64 0,.bool false,.int .u64 0,.int .u64 0,.int .i64 0,.int .i64 0] KR4.out HIT.out rfl (by kernel_rfl) ?_)
  refine bodyPost_ret (results_whole rfl _ _ r #[.int .i64 0,.bool false,.int .u64 0,.int .u64 0,.bool false,.int .u64 0,.int .u64 0,.int .i64 0,.int .i64 0] rfl (blkRow KR4.out _) rfl) rfl ?_
  exact ⟨rfl,(onlyRow _).from B4.out (by have := EP.out; have := ER.out; omega)⟩
theorem whole_0 (A:Option Addr) (n c:Nat) (t6:Bool) (th tl port:Int) (v6:Bool) (pr:Int) (s6:Bool) (sh sl:Int) (d6:Bool) (dh dl sp dp ttl fl:Int) (er:Bool) (apr:Int) (as6:Bool) (ash asl:Int) (ad6:Bool) (adh adl asp adp sz:Int) (w:World)
    (HP:Hid (∀ V,Below w.heap.size w V → Calls Try.prog 14 #[.slice A n c] V fun o w' => o = .returned (.tuple #[.agg #[.bool v6,.int .i64 pr,.bool s6,.int .u64 sh,.int .u64 sl,.bool d6,.int .u64 dh,.int .u64 dl,.int .i64 sp,.int .i64 dp,.int .i64 ttl,.int .i64 fl,.bool er,.int .i64 apr,.bool as6,.int .u64 ash,.int .u64 asl,.bool ad6,.int .u64 adh,.int .u64 adl,.int .i64 asp,.int .i64 adp,.int .i64 sz],.int .i64 0])∧Below V.heap.size V w')) :
    Calls Try.prog 28 #[.slice A n c,.int .i64 0,.agg #[.bool t6,.int .u64 th,.int .u64 tl],.int .i64 port] w fun o w' => o = .returned (.tuple #[.agg #[.int .i64 pr,.bool t6,.int .u64 th,.int .u64 tl,.bool d6,.int .u64 dh,.int .u64 dl,.int .i64 port,.int .i64 dp],.int .i64 0])∧Below w.heap.size w w' := by
  obtain ⟨Y,hY⟩:∃ Y:Array Value,Y = #[.bool v6,.int .i64 pr,.bool s6,.int .u64 sh,.int .u64 sl,.bool d6,.int .u64 dh,.int .u64 dl,.int .i64 sp,.int .i64 dp,.int .i64 ttl,.int .i64 fl,.bool er,.int .i64 apr,.bool as6,.int .u64 ash,.int .u64 asl,.bool ad6,.int .u64 adh,.int .u64 adl,.int .i64 asp,.int .i64 adp,.int .i64 sz] := ⟨_,rfl⟩
  have ys:Y.size = 23 := by rw [hY]; rfl
  have ONE := Lib.hid (show Y.all (·.oneCell') = true from by rw [hY]; simp [Value.oneCell'])
  have HIY := Lib.hid (show (Try.prog.info? 36).map (·.size) = some Y.size from by rw [ys]; exact pk_size)
  have ZY := Lib.hid (show (#[.bool false,.int .i64 0,.bool false,.int .u64 0,.int .u64 0,.bool false,.int .u64 0,.int .u64 0,.int .i64 0,.int .i64 0,.int .i64 0,.int .i64 0,.bool false,.int .i64 0,.bool false,.int .u64 0,.int .u64 0,.bool false,.int .u64 0,.int .u64 0,.int .i64 0,.int .i64 0,.int .i64 0]:Array Value).size = Y.size from by rw [ys]; rfl)
  rw [← hY] at HP
  have HY := Lib.hid hY
  have HIT := Lib.hid tpz
  clear hY ys
  obtain ⟨w1,hw1⟩:∃ w1,w1 = w.alloc (.cells #[.bool t6,.int .u64 th,.int .u64 tl] 32) := ⟨_,rfl⟩
  obtain ⟨w2,hw2⟩:∃ w2,w2 = w1.alloc (.cells #[.int .i64 0,.bool false,.int .u64 0,.int .u64 0,.bool false,.int .u64 0,.int .u64 0,.int .i64 0,.int .i64 0] 34) := ⟨_,rfl⟩
  obtain ⟨p,hp⟩:∃ p,p = w.heap.size := ⟨_,rfl⟩
  obtain ⟨r,hr⟩:∃ r,r = p + 1 := ⟨_,rfl⟩
  have E1 := Lib.hid hw1
  have E2 := Lib.hid hw2
  have EP := Lib.hid hp
  have ER := Lib.hid hr
  have z1:w1.heap.size = p + 1 := by rw [hw1,hp]; simp
  have KT2 := Lib.hid (show Blk w2 p 32 #[.bool t6,.int .u64 th,.int .u64 tl] from by rw [hw2,hw1,hp]; exact (Blk.new w _ _).alloc _)
  have KR2 := Lib.hid (show Blk w2 r 34 #[.int .i64 0,.bool false,.int .u64 0,.int .u64 0,.bool false,.int .u64 0,.int .u64 0,.int .i64 0,.int .i64 0] from by rw [hr,← z1,hw2]; exact Blk.new w1 _ _)
  have B2 := Lib.hid (show Below w.heap.size w w2 from by rw [hw2,hw1]; exact ((Below.refl _ _).alloc (Nat.le_refl _) _).alloc (by simp) _)
  clear hw1 hw2 hp hr z1
  go_enter Try.func28,Try.ntmps28
  go_upto_region 1 with fail
  rw [← E1.out,← EP.out,← ER.out,← E2.out]
  go_wp2_with fail
  refine (HP.out _ B2.out).mono ?_
  rintro o w3 ⟨rfl,hb3⟩
  obtain ⟨w4,hw4⟩:∃ w4,w4 = (w3.alloc (.cells #[.bool false,.int .i64 0,.bool false,.int .u64 0,.int .u64 0,.bool false,.int .u64 0,.int .u64 0,.int .i64 0,.int .i64 0,.int .i64 0,.int .i64 0,.bool false,.int .i64 0,.bool false,.int .u64 0,.int .u64 0,.bool false,.int .u64 0,.int .u64 0,.int .i64 0,.int .i64 0,.int .i64 0] 36)).setRow w3.heap.size Y := ⟨_,rfl⟩
  obtain ⟨g,hg⟩:∃ g,g = w3.heap.size := ⟨_,rfl⟩
  have E4 := Lib.hid hw4
  have EG := Lib.hid hg
  have KP4 := Lib.hid (show Blk w4 g 36 Y from by rw [hw4,hg]; exact blkRow (Blk.new w3 _ _) _)
  have B34 := Lib.hid (show Below w3.heap.size w3 w4 from by rw [hw4]; exact (onlyRow _).from ((Below.refl _ _).alloc (Nat.le_refl _) _) (Nat.le_refl _))
  have B24 := Lib.hid (hb3.trans (B34.out.mono hb3.size))
  have KT4 := Lib.hid (KT2.out.below B24.out KT2.out.lt)
  have KR4 := Lib.hid (KR2.out.below B24.out KR2.out.lt)
  have B4 := Lib.hid (B2.out.trans (B24.out.mono B2.out.size))
  have NE := Lib.hid (show r ≠ g from by have := KR2.out.lt; have := hb3.size; omega)
  have B3S := Lib.hid hb3.size
  clear hw4 hg hb3
  go_upto_region 2 with (refine wpList_store_row rfl 36 _ _ rfl w3.heap.size Y rfl rfl 36 #[.bool false,.int .i64 0,.bool false,.int .u64 0,.int .u64 0,.bool false,.int .u64 0,.int .u64 0,.int .i64 0,.int .i64 0,.int .i64 0,.int .i64 0,.bool false,.int .i64 0,.bool false,.int .u64 0,.int .u64 0,.bool false,.int .u64 0,.int .u64 0,.int .i64 0,.int .i64 0,.int .i64 0] (Blk.new w3 _ _) HIY.out ZY.out ONE.out ?_)
  rw [← E4.out,← EG.out]
  have kp := KP4.out
  rw [HY.out] at kp
  have x0 := KT4.out.cell 0
  have x1 := KT4.out.cell 1
  have x2 := KT4.out.cell 2
  have y2 := kp.cell 2
  have f2 := kp.frozen 2
  have y3 := kp.cell 3
  have f3 := kp.frozen 3
  have y4 := kp.cell 4
  have f4 := kp.frozen 4
  have y8 := kp.cell 8
  have f8 := kp.frozen 8
  obtain ⟨w5,hw5⟩:∃ w5,w5 = ((((w4.setCell ⟨g,2,none⟩ (.bool t6)).setCell ⟨g,3,none⟩ (.int .u64 th)).setCell ⟨g,4,none⟩ (.int .u64 tl)).setCell ⟨g,8,none⟩ (.int .i64 port)) := ⟨_,rfl⟩
  have E5 := Lib.hid hw5
  have q0 := Blk.set_ (kp) 2 (.bool t6)
  simp only [List.setIfInBounds_toArray,List.set_cons_zero,List.set_cons_succ] at q0
  have q1 := Blk.set_ (q0) 3 (.int .u64 th)
  simp only [List.setIfInBounds_toArray,List.set_cons_zero,List.set_cons_succ] at q1
  have q2 := Blk.set_ (q1) 4 (.int .u64 tl)
  simp only [List.setIfInBounds_toArray,List.set_cons_zero,List.set_cons_succ] at q2
  have q3 := Blk.set_ (q2) 8 (.int .i64 port)
  simp only [List.setIfInBounds_toArray,List.set_cons_zero,List.set_cons_succ] at q3
  have K5 := Lib.hid (show Blk w5 g 36 #[.bool v6,.int .i64 pr,.bool t6,.int .u64 th,.int .u64 tl,.bool d6,.int .u64 dh,.int .u64 dl,.int .i64 port,.int .i64 dp,.int .i64 ttl,.int .i64 fl,.bool er,.int .i64 apr,.bool as6,.int .u64 ash,.int .u64 asl,.bool ad6,.int .u64 adh,.int .u64 adl,.int .i64 asp,.int .i64 adp,.int .i64 sz] from by rw [hw5]; exact q3)
  have R5 := Lib.hid (show Blk w5 r 34 #[.int .i64 0,.bool false,.int .u64 0,.int .u64 0,.bool false,.int .u64 0,.int .u64 0,.int .i64 0,.int .i64 0] from by rw [hw5]; exact (((KR4.out.far (p := ⟨g,2,none⟩) NE.out _).far (p := ⟨g,3,none⟩) NE.out _).far (p := ⟨g,4,none⟩) NE.out _).far (p := ⟨g,8,none⟩) NE.out _)
  have WG := Lib.hid (show w.heap.size ≤ g from by have := B2.out.size; have := B3S.out; have := EG.out; omega)
  have B5 := Lib.hid (show Below w.heap.size w w5 from by
    rw [hw5]
    exact (((B4.out.setCell (p := ⟨g,2,none⟩) WG.out _).setCell (p := ⟨g,3,none⟩) WG.out _).setCell (p := ⟨g,4,none⟩) WG.out _).setCell (p := ⟨g,8,none⟩) WG.out _)
  clear q0 q1 q2 q3 hw5 kp
  go_upto_region 7 with fail
  rw [← E5.out]
  clear y2 f2 y3 f3 y4 f4 y8 f8 x0 x1 x2
  have c1 := K5.out.cell 1
  have c2 := K5.out.cell 2
  have c3 := K5.out.cell 3
  have c4 := K5.out.cell 4
  have c5 := K5.out.cell 5
  have c6 := K5.out.cell 6
  have c7 := K5.out.cell 7
  have c8 := K5.out.cell 8
  have c9 := K5.out.cell 9
  go_wp2_with (refine wpList_store_row rfl 34 _ _ rfl r #[.int .i64 pr,.bool t6,.int .u64 th,.int .u64 tl,.bool d6,.int .u64 dh,.int .u64 dl,.int .i64 port,.int .i64 dp] rfl rfl 34 #[.int .i64 0,.bool false,.int .u64 0,.int .u64 0,.bool false,.int .u64 0,.int .u64 0,.int .i64 0,.int .i64 0] R5.out HIT.out rfl (by kernel_rfl) ?_)
  refine bodyPost_ret (results_whole rfl _ _ r #[.int .i64 pr,.bool t6,.int .u64 th,.int .u64 tl,.bool d6,.int .u64 dh,.int .u64 dl,.int .i64 port,.int .i64 dp] rfl (blkRow R5.out _) rfl) rfl ?_
  exact ⟨rfl,(onlyRow _).from B5.out (by have := EP.out; have := ER.out; omega)⟩
theorem whole_1 (A:Option Addr) (n c:Nat) (s:Int) (hs:s ≠ 0) (t6:Bool) (th tl port:Int) (v6:Bool) (pr:Int) (s6:Bool) (sh sl:Int) (d6:Bool) (dh dl sp dp ttl fl:Int) (er:Bool) (apr:Int) (as6:Bool) (ash asl:Int) (ad6:Bool) (adh adl asp adp sz:Int) (w:World)
    (HP:Hid (∀ V,Below w.heap.size w V → Calls Try.prog 14 #[.slice A n c] V fun o w' => o = .returned (.tuple #[.agg #[.bool v6,.int .i64 pr,.bool s6,.int .u64 sh,.int .u64 sl,.bool d6,.int .u64 dh,.int .u64 dl,.int .i64 sp,.int .i64 dp,.int .i64 ttl,.int .i64 fl,.bool er,.int .i64 apr,.bool as6,.int .u64 ash,.int .u64 asl,.bool ad6,.int .u64 adh,.int .u64 adl,.int .i64 asp,.int .i64 adp,.int .i64 sz],.int .i64 0])∧Below V.heap.size V w')) :
    Calls Try.prog 28 #[.slice A n c,.int .i64 s,.agg #[.bool t6,.int .u64 th,.int .u64 tl],.int .i64 port] w fun o w' => o = .returned (.tuple #[.agg #[.int .i64 pr,.bool s6,.int .u64 sh,.int .u64 sl,.bool t6,.int .u64 th,.int .u64 tl,.int .i64 sp,.int .i64 port],.int .i64 0])∧Below w.heap.size w w' := by
  have ts:(s == 0) = false := by simpa using hs
  clear hs
  obtain ⟨Y,hY⟩:∃ Y:Array Value,Y = #[.bool v6,.int .i64 pr,.bool s6,.int .u64 sh,.int .u64 sl,.bool d6,.int .u64 dh,.int .u64 dl,.int .i64 sp,.int .i64 dp,.int .i64 ttl,.int .i64 fl,.bool er,.int .i64 apr,.bool as6,.int .u64 ash,.int .u64 asl,.bool ad6,.int .u64 adh,.int .u64 adl,.int .i64 asp,.int .i64 adp,.int .i64 sz] := ⟨_,rfl⟩
  have ys:Y.size = 23 := by rw [hY]; rfl
  have ONE := Lib.hid (show Y.all (·.oneCell') = true from by rw [hY]; simp [Value.oneCell'])
  have HIY := Lib.hid (show (Try.prog.info? 36).map (·.size) = some Y.size from by rw [ys]; exact pk_size)
  have ZY := Lib.hid (show (#[.bool false,.int .i64 0,.bool false,.int .u64 0,.int .u64 0,.bool false,.int .u64 0,.int .u64 0,.int .i64 0,.int .i64 0,.int .i64 0,.int .i64 0,.bool false,.int .i64 0,.bool false,.int .u64 0,.int .u64 0,.bool false,.int .u64 0,.int .u64 0,.int .i64 0,.int .i64 0,.int .i64 0]:Array Value).size = Y.size from by rw [ys]; rfl)
  rw [← hY] at HP
  have HY := Lib.hid hY
  have HIT := Lib.hid tpz
  clear hY ys
  obtain ⟨w1,hw1⟩:∃ w1,w1 = w.alloc (.cells #[.bool t6,.int .u64 th,.int .u64 tl] 32) := ⟨_,rfl⟩
  obtain ⟨w2,hw2⟩:∃ w2,w2 = w1.alloc (.cells #[.int .i64 0,.bool false,.int .u64 0,.int .u64 0,.bool false,.int .u64 0,.int .u64 0,.int .i64 0,.int .i64 0] 34) := ⟨_,rfl⟩
  obtain ⟨p,hp⟩:∃ p,p = w.heap.size := ⟨_,rfl⟩
  obtain ⟨r,hr⟩:∃ r,r = p + 1 := ⟨_,rfl⟩
  have E1 := Lib.hid hw1
  have E2 := Lib.hid hw2
  have EP := Lib.hid hp
  have ER := Lib.hid hr
  have z1:w1.heap.size = p + 1 := by rw [hw1,hp]; simp
  have KT2 := Lib.hid (show Blk w2 p 32 #[.bool t6,.int .u64 th,.int .u64 tl] from by rw [hw2,hw1,hp]; exact (Blk.new w _ _).alloc _)
  have KR2 := Lib.hid (show Blk w2 r 34 #[.int .i64 0,.bool false,.int .u64 0,.int .u64 0,.bool false,.int .u64 0,.int .u64 0,.int .i64 0,.int .i64 0] from by rw [hr,← z1,hw2]; exact Blk.new w1 _ _)
  have B2 := Lib.hid (show Below w.heap.size w w2 from by rw [hw2,hw1]; exact ((Below.refl _ _).alloc (Nat.le_refl _) _).alloc (by simp) _)
  clear hw1 hw2 hp hr z1
  go_enter Try.func28,Try.ntmps28
  go_upto_region 1 with fail
  rw [← E1.out,← EP.out,← ER.out,← E2.out]
  go_wp2_with fail
  refine (HP.out _ B2.out).mono ?_
  rintro o w3 ⟨rfl,hb3⟩
  obtain ⟨w4,hw4⟩:∃ w4,w4 = (w3.alloc (.cells #[.bool false,.int .i64 0,.bool false,.int .u64 0,.int .u64 0,.bool false,.int .u64 0,.int .u64 0,.int .i64 0,.int .i64 0,.int .i64 0,.int .i64 0,.bool false,.int .i64 0,.bool false,.int .u64 0,.int .u64 0,.bool false,.int .u64 0,.int .u64 0,.int .i64 0,.int .i64 0,.int .i64 0] 36)).setRow w3.heap.size Y := ⟨_,rfl⟩
  obtain ⟨g,hg⟩:∃ g,g = w3.heap.size := ⟨_,rfl⟩
  have E4 := Lib.hid hw4
  have EG := Lib.hid hg
  have KP4 := Lib.hid (show Blk w4 g 36 Y from by rw [hw4,hg]; exact blkRow (Blk.new w3 _ _) _)
  have B34 := Lib.hid (show Below w3.heap.size w3 w4 from by rw [hw4]; exact (onlyRow _).from ((Below.refl _ _).alloc (Nat.le_refl _) _) (Nat.le_refl _))
  have B24 := Lib.hid (hb3.trans (B34.out.mono hb3.size))
  have KT4 := Lib.hid (KT2.out.below B24.out KT2.out.lt)
  have KR4 := Lib.hid (KR2.out.below B24.out KR2.out.lt)
  have B4 := Lib.hid (B2.out.trans (B24.out.mono B2.out.size))
  have NE := Lib.hid (show r ≠ g from by have := KR2.out.lt; have := hb3.size; omega)
  have B3S := Lib.hid hb3.size
  clear hw4 hg hb3
  go_upto_region 2 with (refine wpList_store_row rfl 36 _ _ rfl w3.heap.size Y rfl rfl 36 #[.bool false,.int .i64 0,.bool false,.int .u64 0,.int .u64 0,.bool false,.int .u64 0,.int .u64 0,.int .i64 0,.int .i64 0,.int .i64 0,.int .i64 0,.bool false,.int .i64 0,.bool false,.int .u64 0,.int .u64 0,.bool false,.int .u64 0,.int .u64 0,.int .i64 0,.int .i64 0,.int .i64 0] (Blk.new w3 _ _) HIY.out ZY.out ONE.out ?_)
  rw [← E4.out,← EG.out]
  have kp := KP4.out
  rw [HY.out] at kp
  have x0 := KT4.out.cell 0
  have x1 := KT4.out.cell 1
  have x2 := KT4.out.cell 2
  have y5 := kp.cell 5
  have f5 := kp.frozen 5
  have y6 := kp.cell 6
  have f6 := kp.frozen 6
  have y7 := kp.cell 7
  have f7 := kp.frozen 7
  have y9 := kp.cell 9
  have f9 := kp.frozen 9
  obtain ⟨w5,hw5⟩:∃ w5,w5 = ((((w4.setCell ⟨g,5,none⟩ (.bool t6)).setCell ⟨g,6,none⟩ (.int .u64 th)).setCell ⟨g,7,none⟩ (.int .u64 tl)).setCell ⟨g,9,none⟩ (.int .i64 port)) := ⟨_,rfl⟩
  have E5 := Lib.hid hw5
  have q0 := Blk.set_ (kp) 5 (.bool t6)
  simp only [List.setIfInBounds_toArray,List.set_cons_zero,List.set_cons_succ] at q0
  have q1 := Blk.set_ (q0) 6 (.int .u64 th)
  simp only [List.setIfInBounds_toArray,List.set_cons_zero,List.set_cons_succ] at q1
  have q2 := Blk.set_ (q1) 7 (.int .u64 tl)
  simp only [List.setIfInBounds_toArray,List.set_cons_zero,List.set_cons_succ] at q2
  have q3 := Blk.set_ (q2) 9 (.int .i64 port)
  simp only [List.setIfInBounds_toArray,List.set_cons_zero,List.set_cons_succ] at q3
  have K5 := Lib.hid (show Blk w5 g 36 #[.bool v6,.int .i64 pr,.bool s6,.int .u64 sh,.int .u64 sl,.bool t6,.int .u64 th,.int .u64 tl,.int .i64 sp,.int .i64 port,.int .i64 ttl,.int .i64 fl,.bool er,.int .i64 apr,.bool as6,.int .u64 ash,.int .u64 asl,.bool ad6,.int .u64 adh,.int .u64 adl,.int .i64 asp,.int .i64 adp,.int .i64 sz] from by rw [hw5]; exact q3)
  have R5 := Lib.hid (show Blk w5 r 34 #[.int .i64 0,.bool false,.int .u64 0,.int .u64 0,.bool false,.int .u64 0,.int .u64 0,.int .i64 0,.int .i64 0] from by rw [hw5]; exact (((KR4.out.far (p := ⟨g,5,none⟩) NE.out _).far (p := ⟨g,6,none⟩) NE.out _).far (p := ⟨g,7,none⟩) NE.out _).far (p := ⟨g,9,none⟩) NE.out _)
  have WG := Lib.hid (show w.heap.size ≤ g from by have := B2.out.size; have := B3S.out; have := EG.out; omega)
  have B5 := Lib.hid (show Below w.heap.size w w5 from by
    rw [hw5]
    exact (((B4.out.setCell (p := ⟨g,5,none⟩) WG.out _).setCell (p := ⟨g,6,none⟩) WG.out _).setCell (p := ⟨g,7,none⟩) WG.out _).setCell (p := ⟨g,9,none⟩) WG.out _)
  clear q0 q1 q2 q3 hw5 kp
  go_upto_region 7 with fail
  rw [← E5.out]
  clear y5 f5 y6 f6 y7 f7 y9 f9 x0 x1 x2
  have c1 := K5.out.cell 1
  have c2 := K5.out.cell 2
  have c3 := K5.out.cell 3
  have c4 := K5.out.cell 4
  have c5 := K5.out.cell 5
  have c6 := K5.out.cell 6
  have c7 := K5.out.cell 7
  have c8 := K5.out.cell 8
  have c9 := K5.out.cell 9
  go_wp2_with (refine wpList_store_row rfl 34 _ _ rfl r #[.int .i64 pr,.bool s6,.int .u64 sh,.int .u64 sl,.bool t6,.int .u64 th,.int .u64 tl,.int .i64 sp,.int .i64 port] rfl rfl 34 #[.int .i64 0,.bool false,.int .u64 0,.int .u64 0,.bool false,.int .u64 0,.int .u64 0,.int .i64 0,.int .i64 0] R5.out HIT.out rfl (by kernel_rfl) ?_)
  refine bodyPost_ret (results_whole rfl _ _ r #[.int .i64 pr,.bool s6,.int .u64 sh,.int .u64 sl,.bool t6,.int .u64 th,.int .u64 tl,.int .i64 sp,.int .i64 port] rfl (blkRow R5.out _) rfl) rfl ?_
  exact ⟨rfl,(onlyRow _).from B5.out (by have := EP.out; have := ER.out; omega)⟩
end Go.Proofs.Ytodckfgfbcnkoaa.natF
