/- 1 texts in one. -/
import Derived.Deep.RegionHeld3
import Derived.Test.YtodckfgfbcnkoaaTc14
/- Layer 14: open4, open6. -/
namespace Go.Proofs.Ytodckfgfbcnkoaa.tunB
open Go.ChangeShapes Go.WideShapes Go.ChangeAt Go.RowKit
open Go.Proofs.Ytodckfgfbcnkoaa.base Go.Proofs.Ytodckfgfbcnkoaa.rdrA Go.Proofs.Ytodckfgfbcnkoaa.rdrG Go.Proofs.Ytodckfgfbcnkoaa.sumB Go.Proofs.Ytodckfgfbcnkoaa.sixW Go.Proofs.Ytodckfgfbcnkoaa.sixM Go.Proofs.Ytodckfgfbcnkoaa.pktA Go.Proofs.Ytodckfgfbcnkoaa.pktB Go.Proofs.Ytodckfgfbcnkoaa.pktC Go.Proofs.Ytodckfgfbcnkoaa.pktD Go.Proofs.Ytodckfgfbcnkoaa.pktE Go.Proofs.Ytodckfgfbcnkoaa.sixE Go.Proofs.Ytodckfgfbcnkoaa.tunW
set_option linter.unusedVariables false

theorem results_open {fn : Func} {u p q v x : Tmp} (h : fn.results = #[.tmp u, .cell p 32, .cell q 32, .tmp v, .tmp x]) (tmps : Array Value) (w : World) (g1 g2 : Nat) (a1 a2 : Array Value) (hp : tmps.getD p undef = .pointer (some ⟨g1, 0, none⟩)) (hq : tmps.getD q undef = .pointer (some ⟨g2, 0, none⟩)) (h1 : Blk w g1 32 a1) (h2 : Blk w g2 32 a2) (s1 : a1.size = 3) (s2 : a2.size = 3) :
    (results fn tmps).run Try.prog w = .ok (.tuple #[tmps.getD u undef, .agg a1, .agg a2, tmps.getD v undef, tmps.getD x undef]) w := by
  have e : (results fn tmps).run Try.prog w = ((asAddr (tmps.getD p undef)).run Try.prog w).andThen fun a w1 => ((loadVar 32 a).run Try.prog w1).andThen fun y w2 => ((asAddr (tmps.getD q undef)).run Try.prog w2).andThen fun a2 w3 => ((loadVar 32 a2).run Try.prog w3).andThen fun y2 w4 => .ok (.tuple #[tmps.getD u undef, y, y2, tmps.getD v undef, tmps.getD x undef]) w4 := by
    simp only [results, h]
    simp [Sem.run_bind, Result.andThen]
  rw [e, hp, hq]
  simp only [asAddr, Sem.run_pure, Result.andThen_ok]
  rw [run_loadVar_row w g1 32 32 a1 (0, 0) _ h1 Try.underlying32 rfl (by rw [s1]; kernel_rfl)]
  simp only [Result.andThen_ok]
  rw [run_loadVar_row w g2 32 32 a2 (0, 0) _ h2 Try.underlying32 rfl (by rw [s2]; kernel_rfl)]
  rfl
theorem astore (V : World) (R : Nat) (v0 v1 v2 u0 u1 u2 : Value) (h : Blk V R 32 #[u0, u1, u2]) : Blk (((V.setCell ⟨R, 0, none⟩ v0).setCell ⟨R, 1, none⟩ v1).setCell ⟨R, 2, none⟩ v2) R 32 #[v0, v1, v2] := by
  have h1 : Blk (V.setCell ⟨R, 0, none⟩ v0) R 32 #[v0, u1, u2] := h.set_ 0 v0
  have h2 : Blk ((V.setCell ⟨R, 0, none⟩ v0).setCell ⟨R, 1, none⟩ v1) R 32 #[v0, v1, u2] := h1.set_ 1 v1
  exact h2.set_ 2 v2
theorem afar (V : World) (R H : Nat) (v0 v1 v2 : Value) (T : TypeId) (cs : Array Value) (hne : H ≠ R) (h : Blk V H T cs) : Blk (((V.setCell ⟨R, 0, none⟩ v0).setCell ⟨R, 1, none⟩ v1).setCell ⟨R, 2, none⟩ v2) H T cs :=
  ((h.far (p := ⟨R, 0, none⟩) hne v0).far (p := ⟨R, 1, none⟩) hne v1).far (p := ⟨R, 2, none⟩) hne v2
theorem aonly (V : World) (R : Nat) (v0 v1 v2 : Value) : OnlyG R V (((V.setCell ⟨R, 0, none⟩ v0).setCell ⟨R, 1, none⟩ v1).setCell ⟨R, 2, none⟩ v2) := (((OnlyG.refl R V).set 0 v0).set 1 v1).set 2 v2
theorem Sl_apart {w w' : World} {g : Nat} {A : Option Addr} {n c : Nat} {l : List Int} (h : Sl w A n c l) (o : OnlyG g w w') {T : TypeId} {a : Bool} {b d : Int} (hg : Blk w g T #[.bool a, .int .u64 b, .int .u64 d]) : Sl w' A n c l := by
  refine ⟨h.len, ?_, h.nc, h.mx, h.nil, h.u8⟩
  rcases h.row with e | ⟨k, off, rfl, hlt, hc⟩
  · exact .inl e
  · rcases l with _ | ⟨x, l⟩
    · exact .inl rfl
    · have h0 := hc 0 (.int .u8 x) rfl
      have hne : k ≠ g := by
        intro e
        rw [e, Nat.add_zero, hg.cell off] at h0
        rcases off with _ | _ | _ | off
        · cases h0
        · cases h0
        · cases h0
        · cases h0
      exact .inr ⟨k, off, rfl, by rw [o.size]; exact hlt, fun i u hu => by
        have e := hc i u hu
        unfold World.cell? at e ⊢
        rw [show w'.heap[k]? = w.heap[k]? from o.els k hne]
        exact e⟩
def OpnP (r : Rd) (w : World) (o : Ending) (w' : World) : Prop := Below w.heap.size w w' ∧ ∃ (A : Option Addr) (c : Nat), o = .returned (.tuple #[.slice A r.b.length c, .agg #[.bool r.s6, .int .u64 r.sh, .int .u64 r.sl], .agg #[.bool r.d6, .int .u64 r.dh, .int .u64 r.dl], .int .i64 r.p, .int .i64 r.e]) ∧ Sl w' A r.b.length c r.b
set_option maxHeartbeats 4000000 in
set_option maxRecDepth 100000 in
theorem open4_e (A : Option Addr) (n c : Nat) (mf : Bool) (fr pr e : Int) (s6 : Bool) (sh sl : Int) (d6 : Bool) (dh dl : Int) (r : List Int) (he : e ≠ 0) (w : World)
    (HC : Hid (∀ V, Below w.heap.size w V → Calls Try.prog 21 #[.slice A n c] V fun o w' => Below V.heap.size V w' ∧ ∃ (tos id : Int) (df : Bool) (ttl : Int) (AO : Option Addr) (no co : Nat) (AR : Option Addr) (cr : Nat), o = .returned (.tuple #[.agg #[.int .i64 tos, .int .i64 id, .bool df, .bool mf, .int .i64 fr, .int .i64 ttl, .int .i64 pr, .bool s6, .int .u64 sh, .int .u64 sl, .bool d6, .int .u64 dh, .int .u64 dl, .slice AO no co], .slice AR r.length cr, .int .i64 e]) ∧ Sl w' AR r.length cr r)) :
    Calls Try.prog 39 #[.slice A n c] w (OpnP ⟨r, s6, sh, sl, d6, dh, dl, pr, e⟩ w) := by
  obtain ⟨m, hm0⟩ : ∃ m, m = r.length := ⟨_, rfl⟩
  rw [← hm0] at HC
  have HM := Lib.hid hm0
  clear hm0
  have t1 : (e == 0) = false := by simpa using he
  clear he
  obtain ⟨w0, hw0⟩ : ∃ w0, w0 = w.alloc (.cells #[.bool false, .int .u64 0, .int .u64 0] 32) := ⟨_, rfl⟩
  obtain ⟨w1, hw1⟩ : ∃ w1, w1 = w0.alloc (.cells #[.bool false, .int .u64 0, .int .u64 0] 32) := ⟨_, rfl⟩
  obtain ⟨p1, hp1⟩ : ∃ p1, p1 = w.heap.size := ⟨_, rfl⟩
  obtain ⟨p2, hp2⟩ : ∃ p2, p2 = p1 + 1 := ⟨_, rfl⟩
  have E0 := Lib.hid hw0
  have E1 := Lib.hid hw1
  have EP1 := Lib.hid hp1
  have EP2 := Lib.hid hp2
  have B0 := Lib.hid (show Below w.heap.size w w0 from by rw [hw0]; exact (Below.refl _ _).alloc (Nat.le_refl _) _)
  have B01 := Lib.hid (show Below w0.heap.size w0 w1 from by rw [hw1]; exact (Below.refl _ _).alloc (Nat.le_refl _) _)
  have B1 := Lib.hid (B0.out.trans (B01.out.mono B0.out.size))
  have K0 := Lib.hid (show Blk w0 p1 32 #[.bool false, .int .u64 0, .int .u64 0] from by rw [hw0, hp1]; exact Blk.new w _ _)
  have KA1 := Lib.hid (K0.out.below B01.out K0.out.lt)
  have KB1 := Lib.hid (show Blk w1 p2 32 #[.bool false, .int .u64 0, .int .u64 0] from by
    have e9 : p2 = w0.heap.size := by rw [hp2, hp1, hw0]; simp
    rw [hw1, e9]; exact Blk.new w0 _ _)
  have NE := Lib.hid (show p1 < p2 from by omega)
  clear hw0 hw1 hp1 hp2
  go_enter Try.func39, Try.ntmps39
  go_upto_region 1 with fail
  rw [← E0.out, ← EP1.out, ← EP2.out, ← E1.out]
  go_wp2_with fail
  refine (HC.out _ B1.out).mono ?_
  rintro o w2 ⟨hb2, tos, id, df, ttl, AO, no, co, AR, cr, rfl, hsl⟩
  obtain ⟨w3, hw3⟩ : ∃ w3, w3 = w2.alloc (.cells #[.int .i64 tos, .int .i64 id, .bool df, .bool mf, .int .i64 fr, .int .i64 ttl, .int .i64 pr, .bool s6, .int .u64 sh, .int .u64 sl, .bool d6, .int .u64 dh, .int .u64 dl, .slice AO no co] 53) := ⟨_, rfl⟩
  obtain ⟨h, hh⟩ : ∃ h, h = w2.heap.size := ⟨_, rfl⟩
  have EH := Lib.hid hh
  have E3 := Lib.hid hw3
  have B23 := Lib.hid (show Below w2.heap.size w2 w3 from by rw [hw3]; exact (Below.refl _ _).alloc (Nat.le_refl _) _)
  have B13 := Lib.hid (hb2.trans (B23.out.mono hb2.size))
  have KH3 := Lib.hid (show Blk w3 h 53 #[.int .i64 tos, .int .i64 id, .bool df, .bool mf, .int .i64 fr, .int .i64 ttl, .int .i64 pr, .bool s6, .int .u64 sh, .int .u64 sl, .bool d6, .int .u64 dh, .int .u64 dl, .slice AO no co] from by rw [hw3, hh]; exact Blk.new w2 _ _)
  have KA3 := Lib.hid (KA1.out.below B13.out KA1.out.lt)
  have KB3 := Lib.hid (KB1.out.below B13.out KB1.out.lt)
  have B3 := Lib.hid (B1.out.trans (B13.out.mono B1.out.size))
  have SL3 := Lib.hid (hsl.below B23.out)
  have QH := Lib.hid (show p2 < h from by have := KB1.out.lt; have := hb2.size; omega)
  clear hw3 hb2 hh hsl
  go_upto_region 2 with fail
  rw [← E3.out, ← EH.out]
  have k0 := KH3.out.cell 0
  have k1 := KH3.out.cell 1
  have k2 := KH3.out.cell 2
  have k3 := KH3.out.cell 3
  have k4 := KH3.out.cell 4
  have k5 := KH3.out.cell 5
  have k6 := KH3.out.cell 6
  have k7 := KH3.out.cell 7
  have k8 := KH3.out.cell 8
  have k9 := KH3.out.cell 9
  have k10 := KH3.out.cell 10
  have k11 := KH3.out.cell 11
  have k12 := KH3.out.cell 12
  have k13 := KH3.out.cell 13
  have y0 := KA3.out.cell 0
  have f0 := KA3.out.frozen 0
  have x0 := KB3.out.cell 0
  have g0 := KB3.out.frozen 0
  have y1 := KA3.out.cell 1
  have f1 := KA3.out.frozen 1
  have x1 := KB3.out.cell 1
  have g1 := KB3.out.frozen 1
  have y2 := KA3.out.cell 2
  have f2 := KA3.out.frozen 2
  have x2 := KB3.out.cell 2
  have g2 := KB3.out.frozen 2
  have HSF := Lib.hid (show ∀ V, Blk V h 53 #[.int .i64 tos, .int .i64 id, .bool df, .bool mf, .int .i64 fr, .int .i64 ttl, .int .i64 pr, .bool s6, .int .u64 sh, .int .u64 sl, .bool d6, .int .u64 dh, .int .u64 dl, .slice AO no co] → (V.cell? ⟨h, 7, none⟩ = some (.bool s6) ∧ V.cell? ⟨h, 8, none⟩ = some (.int .u64 sh) ∧ V.cell? ⟨h, 9, none⟩ = some (.int .u64 sl) ∧ V.cell? ⟨h, 10, none⟩ = some (.bool d6) ∧ V.cell? ⟨h, 11, none⟩ = some (.int .u64 dh) ∧ V.cell? ⟨h, 12, none⟩ = some (.int .u64 dl) ∧ V.cell? ⟨h, 6, none⟩ = some (.int .i64 pr)) from fun V q => ⟨q.cell 7, q.cell 8, q.cell 9, q.cell 10, q.cell 11, q.cell 12, q.cell 6⟩)
  have DR := Lib.hid (show ∀ (V : World) (g : Nat) (T : TypeId) (cs : Array Value), Blk V g T cs → Blk V.drew g T cs from fun V g T cs q => q.below (Below.refl _ _).drew q.lt)
  have n1 : h ≠ p1 := by have := QH.out; have := NE.out; omega
  have n2 : h ≠ p2 := by have := QH.out; omega
  have n3 : p1 ≠ p2 := by have := NE.out; omega
  have KHa := Lib.hid (afar w3 p1 h (.bool s6) (.int .u64 sh) (.int .u64 sl) _ _ n1 KH3.out)
  have KHab := Lib.hid (afar (((w3.setCell ⟨p1, 0, none⟩ (.bool s6)).setCell ⟨p1, 1, none⟩ (.int .u64 sh)).setCell ⟨p1, 2, none⟩ (.int .u64 sl)) p2 h (.bool d6) (.int .u64 dh) (.int .u64 dl) _ _ n2 KHa.out)
  have HS0 := Lib.hid (HSF.out w3.drew (DR.out _ _ _ _ KH3.out))
  have HSa := Lib.hid (HSF.out (((w3.setCell ⟨p1, 0, none⟩ (.bool s6)).setCell ⟨p1, 1, none⟩ (.int .u64 sh)).setCell ⟨p1, 2, none⟩ (.int .u64 sl)).drew (DR.out _ _ _ _ KHa.out))
  have HSab := Lib.hid (HSF.out ((((((w3.setCell ⟨p1, 0, none⟩ (.bool s6)).setCell ⟨p1, 1, none⟩ (.int .u64 sh)).setCell ⟨p1, 2, none⟩ (.int .u64 sl)).setCell ⟨p2, 0, none⟩ (.bool d6)).setCell ⟨p2, 1, none⟩ (.int .u64 dh)).setCell ⟨p2, 2, none⟩ (.int .u64 dl)).drew (DR.out _ _ _ _ KHab.out))
  have PBa := Lib.hid (afar w3 p1 p2 (.bool s6) (.int .u64 sh) (.int .u64 sl) _ _ (Ne.symm n3) KB3.out)
  have PAa := Lib.hid (astore w3 p1 (.bool s6) (.int .u64 sh) (.int .u64 sl) _ _ _ KA3.out)
  have PAab := Lib.hid (afar (((w3.setCell ⟨p1, 0, none⟩ (.bool s6)).setCell ⟨p1, 1, none⟩ (.int .u64 sh)).setCell ⟨p1, 2, none⟩ (.int .u64 sl)) p2 p1 (.bool d6) (.int .u64 dh) (.int .u64 dl) _ _ n3 PAa.out)
  have PBab := Lib.hid (astore (((w3.setCell ⟨p1, 0, none⟩ (.bool s6)).setCell ⟨p1, 1, none⟩ (.int .u64 sh)).setCell ⟨p1, 2, none⟩ (.int .u64 sl)) p2 (.bool d6) (.int .u64 dh) (.int .u64 dl) _ _ _ PBa.out)
  have OGab := Lib.hid ((aonly w3 p1 (.bool s6) (.int .u64 sh) (.int .u64 sl)).from B3.out (by have := EP1.out; omega))
  have OAB := Lib.hid ((aonly (((w3.setCell ⟨p1, 0, none⟩ (.bool s6)).setCell ⟨p1, 1, none⟩ (.int .u64 sh)).setCell ⟨p1, 2, none⟩ (.int .u64 sl)) p2 (.bool d6) (.int .u64 dh) (.int .u64 dl)).from OGab.out (by have := EP1.out; have := EP2.out; omega))
  have xa0 := PBa.out.cell 0
  have ga0 := PBa.out.frozen 0
  have xa1 := PBa.out.cell 1
  have ga1 := PBa.out.frozen 1
  have xa2 := PBa.out.cell 2
  have ga2 := PBa.out.frozen 2
  clear n1 n2 n3
  go_upto_region 4 with fail
  go_region_held3 (fun V => V.cell? ⟨h, 7, none⟩ = some (.bool s6) ∧ V.cell? ⟨h, 8, none⟩ = some (.int .u64 sh) ∧ V.cell? ⟨h, 9, none⟩ = some (.int .u64 sl) ∧ V.cell? ⟨h, 10, none⟩ = some (.bool d6) ∧ V.cell? ⟨h, 11, none⟩ = some (.int .u64 dh) ∧ V.cell? ⟨h, 12, none⟩ = some (.int .u64 dl) ∧ V.cell? ⟨h, 6, none⟩ = some (.int .i64 pr)) (first | with_reducible assumption | with_reducible exact HS0.out | with_reducible exact HSa.out | with_reducible exact HSab.out) (first | fail)
  go_wp2_with fail
  have hm := HM.out
  subst hm
  refine bodyPost_ret (results_open rfl _ _ p1 p2 #[.bool s6, .int .u64 sh, .int .u64 sl] #[.bool d6, .int .u64 dh, .int .u64 dl] rfl rfl (DR.out _ _ _ _ PAab.out) (DR.out _ _ _ _ PBab.out) rfl rfl) rfl ?_
  exact ⟨OAB.out.drew, AR, cr, rfl, (Sl_apart (Sl_apart SL3.out (aonly _ _ _ _ _) KA3.out) (aonly _ _ _ _ _) PBa.out).below (Below.refl _ _).drew⟩
set_option maxHeartbeats 4000000 in
set_option maxRecDepth 100000 in
theorem open4_f (A : Option Addr) (n c : Nat) (mf : Bool) (fr pr : Int) (s6 : Bool) (sh sl : Int) (d6 : Bool) (dh dl : Int) (r : List Int) (hf : fr ≠ 0) (w : World)
    (HC : Hid (∀ V, Below w.heap.size w V → Calls Try.prog 21 #[.slice A n c] V fun o w' => Below V.heap.size V w' ∧ ∃ (tos id : Int) (df : Bool) (ttl : Int) (AO : Option Addr) (no co : Nat) (AR : Option Addr) (cr : Nat), o = .returned (.tuple #[.agg #[.int .i64 tos, .int .i64 id, .bool df, .bool mf, .int .i64 fr, .int .i64 ttl, .int .i64 pr, .bool s6, .int .u64 sh, .int .u64 sl, .bool d6, .int .u64 dh, .int .u64 dl, .slice AO no co], .slice AR r.length cr, .int .i64 0]) ∧ Sl w' AR r.length cr r)) :
    Calls Try.prog 39 #[.slice A n c] w (OpnP ⟨r, s6, sh, sl, d6, dh, dl, pr, 21⟩ w) := by
  obtain ⟨m, hm0⟩ : ∃ m, m = r.length := ⟨_, rfl⟩
  rw [← hm0] at HC
  have HM := Lib.hid hm0
  clear hm0
  have t2 : (fr != 0) = true := by simpa using hf
  clear hf
  obtain ⟨w0, hw0⟩ : ∃ w0, w0 = w.alloc (.cells #[.bool false, .int .u64 0, .int .u64 0] 32) := ⟨_, rfl⟩
  obtain ⟨w1, hw1⟩ : ∃ w1, w1 = w0.alloc (.cells #[.bool false, .int .u64 0, .int .u64 0] 32) := ⟨_, rfl⟩
  obtain ⟨p1, hp1⟩ : ∃ p1, p1 = w.heap.size := ⟨_, rfl⟩
  obtain ⟨p2, hp2⟩ : ∃ p2, p2 = p1 + 1 := ⟨_, rfl⟩
  have E0 := Lib.hid hw0
  have E1 := Lib.hid hw1
  have EP1 := Lib.hid hp1
  have EP2 := Lib.hid hp2
  have B0 := Lib.hid (show Below w.heap.size w w0 from by rw [hw0]; exact (Below.refl _ _).alloc (Nat.le_refl _) _)
  have B01 := Lib.hid (show Below w0.heap.size w0 w1 from by rw [hw1]; exact (Below.refl _ _).alloc (Nat.le_refl _) _)
  have B1 := Lib.hid (B0.out.trans (B01.out.mono B0.out.size))
  have K0 := Lib.hid (show Blk w0 p1 32 #[.bool false, .int .u64 0, .int .u64 0] from by rw [hw0, hp1]; exact Blk.new w _ _)
  have KA1 := Lib.hid (K0.out.below B01.out K0.out.lt)
  have KB1 := Lib.hid (show Blk w1 p2 32 #[.bool false, .int .u64 0, .int .u64 0] from by
    have e9 : p2 = w0.heap.size := by rw [hp2, hp1, hw0]; simp
    rw [hw1, e9]; exact Blk.new w0 _ _)
  have NE := Lib.hid (show p1 < p2 from by omega)
  clear hw0 hw1 hp1 hp2
  go_enter Try.func39, Try.ntmps39
  go_upto_region 1 with fail
  rw [← E0.out, ← EP1.out, ← EP2.out, ← E1.out]
  go_wp2_with fail
  refine (HC.out _ B1.out).mono ?_
  rintro o w2 ⟨hb2, tos, id, df, ttl, AO, no, co, AR, cr, rfl, hsl⟩
  obtain ⟨w3, hw3⟩ : ∃ w3, w3 = w2.alloc (.cells #[.int .i64 tos, .int .i64 id, .bool df, .bool mf, .int .i64 fr, .int .i64 ttl, .int .i64 pr, .bool s6, .int .u64 sh, .int .u64 sl, .bool d6, .int .u64 dh, .int .u64 dl, .slice AO no co] 53) := ⟨_, rfl⟩
  obtain ⟨h, hh⟩ : ∃ h, h = w2.heap.size := ⟨_, rfl⟩
  have EH := Lib.hid hh
  have E3 := Lib.hid hw3
  have B23 := Lib.hid (show Below w2.heap.size w2 w3 from by rw [hw3]; exact (Below.refl _ _).alloc (Nat.le_refl _) _)
  have B13 := Lib.hid (hb2.trans (B23.out.mono hb2.size))
  have KH3 := Lib.hid (show Blk w3 h 53 #[.int .i64 tos, .int .i64 id, .bool df, .bool mf, .int .i64 fr, .int .i64 ttl, .int .i64 pr, .bool s6, .int .u64 sh, .int .u64 sl, .bool d6, .int .u64 dh, .int .u64 dl, .slice AO no co] from by rw [hw3, hh]; exact Blk.new w2 _ _)
  have KA3 := Lib.hid (KA1.out.below B13.out KA1.out.lt)
  have KB3 := Lib.hid (KB1.out.below B13.out KB1.out.lt)
  have B3 := Lib.hid (B1.out.trans (B13.out.mono B1.out.size))
  have SL3 := Lib.hid (hsl.below B23.out)
  have QH := Lib.hid (show p2 < h from by have := KB1.out.lt; have := hb2.size; omega)
  clear hw3 hb2 hh hsl
  go_upto_region 2 with fail
  rw [← E3.out, ← EH.out]
  have k0 := KH3.out.cell 0
  have k1 := KH3.out.cell 1
  have k2 := KH3.out.cell 2
  have k3 := KH3.out.cell 3
  have k4 := KH3.out.cell 4
  have k5 := KH3.out.cell 5
  have k6 := KH3.out.cell 6
  have k7 := KH3.out.cell 7
  have k8 := KH3.out.cell 8
  have k9 := KH3.out.cell 9
  have k10 := KH3.out.cell 10
  have k11 := KH3.out.cell 11
  have k12 := KH3.out.cell 12
  have k13 := KH3.out.cell 13
  have y0 := KA3.out.cell 0
  have f0 := KA3.out.frozen 0
  have x0 := KB3.out.cell 0
  have g0 := KB3.out.frozen 0
  have y1 := KA3.out.cell 1
  have f1 := KA3.out.frozen 1
  have x1 := KB3.out.cell 1
  have g1 := KB3.out.frozen 1
  have y2 := KA3.out.cell 2
  have f2 := KA3.out.frozen 2
  have x2 := KB3.out.cell 2
  have g2 := KB3.out.frozen 2
  have HSF := Lib.hid (show ∀ V, Blk V h 53 #[.int .i64 tos, .int .i64 id, .bool df, .bool mf, .int .i64 fr, .int .i64 ttl, .int .i64 pr, .bool s6, .int .u64 sh, .int .u64 sl, .bool d6, .int .u64 dh, .int .u64 dl, .slice AO no co] → (V.cell? ⟨h, 7, none⟩ = some (.bool s6) ∧ V.cell? ⟨h, 8, none⟩ = some (.int .u64 sh) ∧ V.cell? ⟨h, 9, none⟩ = some (.int .u64 sl) ∧ V.cell? ⟨h, 10, none⟩ = some (.bool d6) ∧ V.cell? ⟨h, 11, none⟩ = some (.int .u64 dh) ∧ V.cell? ⟨h, 12, none⟩ = some (.int .u64 dl) ∧ V.cell? ⟨h, 6, none⟩ = some (.int .i64 pr)) from fun V q => ⟨q.cell 7, q.cell 8, q.cell 9, q.cell 10, q.cell 11, q.cell 12, q.cell 6⟩)
  have DR := Lib.hid (show ∀ (V : World) (g : Nat) (T : TypeId) (cs : Array Value), Blk V g T cs → Blk V.drew g T cs from fun V g T cs q => q.below (Below.refl _ _).drew q.lt)
  have n1 : h ≠ p1 := by have := QH.out; have := NE.out; omega
  have n2 : h ≠ p2 := by have := QH.out; omega
  have n3 : p1 ≠ p2 := by have := NE.out; omega
  have KHa := Lib.hid (afar w3 p1 h (.bool s6) (.int .u64 sh) (.int .u64 sl) _ _ n1 KH3.out)
  have KHab := Lib.hid (afar (((w3.setCell ⟨p1, 0, none⟩ (.bool s6)).setCell ⟨p1, 1, none⟩ (.int .u64 sh)).setCell ⟨p1, 2, none⟩ (.int .u64 sl)) p2 h (.bool d6) (.int .u64 dh) (.int .u64 dl) _ _ n2 KHa.out)
  have HS0 := Lib.hid (HSF.out w3.drew (DR.out _ _ _ _ KH3.out))
  have HSa := Lib.hid (HSF.out (((w3.setCell ⟨p1, 0, none⟩ (.bool s6)).setCell ⟨p1, 1, none⟩ (.int .u64 sh)).setCell ⟨p1, 2, none⟩ (.int .u64 sl)).drew (DR.out _ _ _ _ KHa.out))
  have HSab := Lib.hid (HSF.out ((((((w3.setCell ⟨p1, 0, none⟩ (.bool s6)).setCell ⟨p1, 1, none⟩ (.int .u64 sh)).setCell ⟨p1, 2, none⟩ (.int .u64 sl)).setCell ⟨p2, 0, none⟩ (.bool d6)).setCell ⟨p2, 1, none⟩ (.int .u64 dh)).setCell ⟨p2, 2, none⟩ (.int .u64 dl)).drew (DR.out _ _ _ _ KHab.out))
  have PBa := Lib.hid (afar w3 p1 p2 (.bool s6) (.int .u64 sh) (.int .u64 sl) _ _ (Ne.symm n3) KB3.out)
  have PAa := Lib.hid (astore w3 p1 (.bool s6) (.int .u64 sh) (.int .u64 sl) _ _ _ KA3.out)
  have PAab := Lib.hid (afar (((w3.setCell ⟨p1, 0, none⟩ (.bool s6)).setCell ⟨p1, 1, none⟩ (.int .u64 sh)).setCell ⟨p1, 2, none⟩ (.int .u64 sl)) p2 p1 (.bool d6) (.int .u64 dh) (.int .u64 dl) _ _ n3 PAa.out)
  have PBab := Lib.hid (astore (((w3.setCell ⟨p1, 0, none⟩ (.bool s6)).setCell ⟨p1, 1, none⟩ (.int .u64 sh)).setCell ⟨p1, 2, none⟩ (.int .u64 sl)) p2 (.bool d6) (.int .u64 dh) (.int .u64 dl) _ _ _ PBa.out)
  have OGab := Lib.hid ((aonly w3 p1 (.bool s6) (.int .u64 sh) (.int .u64 sl)).from B3.out (by have := EP1.out; omega))
  have OAB := Lib.hid ((aonly (((w3.setCell ⟨p1, 0, none⟩ (.bool s6)).setCell ⟨p1, 1, none⟩ (.int .u64 sh)).setCell ⟨p1, 2, none⟩ (.int .u64 sl)) p2 (.bool d6) (.int .u64 dh) (.int .u64 dl)).from OGab.out (by have := EP1.out; have := EP2.out; omega))
  have xa0 := PBa.out.cell 0
  have ga0 := PBa.out.frozen 0
  have xa1 := PBa.out.cell 1
  have ga1 := PBa.out.frozen 1
  have xa2 := PBa.out.cell 2
  have ga2 := PBa.out.frozen 2
  clear n1 n2 n3
  go_upto_region 4 with fail
  go_region_held3 (fun V => V.cell? ⟨h, 7, none⟩ = some (.bool s6) ∧ V.cell? ⟨h, 8, none⟩ = some (.int .u64 sh) ∧ V.cell? ⟨h, 9, none⟩ = some (.int .u64 sl) ∧ V.cell? ⟨h, 10, none⟩ = some (.bool d6) ∧ V.cell? ⟨h, 11, none⟩ = some (.int .u64 dh) ∧ V.cell? ⟨h, 12, none⟩ = some (.int .u64 dl) ∧ V.cell? ⟨h, 6, none⟩ = some (.int .i64 pr)) (first | with_reducible assumption | with_reducible exact HS0.out | with_reducible exact HSa.out | with_reducible exact HSab.out) (first | fail)
  go_wp2_with fail
  have hm := HM.out
  subst hm
  refine bodyPost_ret (results_open rfl _ _ p1 p2 #[.bool s6, .int .u64 sh, .int .u64 sl] #[.bool d6, .int .u64 dh, .int .u64 dl] rfl rfl (DR.out _ _ _ _ PAab.out) (DR.out _ _ _ _ PBab.out) rfl rfl) rfl ?_
  exact ⟨OAB.out.drew, AR, cr, rfl, (Sl_apart (Sl_apart SL3.out (aonly _ _ _ _ _) KA3.out) (aonly _ _ _ _ _) PBa.out).below (Below.refl _ _).drew⟩
set_option maxHeartbeats 4000000 in
set_option maxRecDepth 100000 in
theorem open4_m (A : Option Addr) (n c : Nat) (pr : Int) (s6 : Bool) (sh sl : Int) (d6 : Bool) (dh dl : Int) (r : List Int) (w : World)
    (HC : Hid (∀ V, Below w.heap.size w V → Calls Try.prog 21 #[.slice A n c] V fun o w' => Below V.heap.size V w' ∧ ∃ (tos id : Int) (df : Bool) (ttl : Int) (AO : Option Addr) (no co : Nat) (AR : Option Addr) (cr : Nat), o = .returned (.tuple #[.agg #[.int .i64 tos, .int .i64 id, .bool df, .bool true, .int .i64 0, .int .i64 ttl, .int .i64 pr, .bool s6, .int .u64 sh, .int .u64 sl, .bool d6, .int .u64 dh, .int .u64 dl, .slice AO no co], .slice AR r.length cr, .int .i64 0]) ∧ Sl w' AR r.length cr r)) :
    Calls Try.prog 39 #[.slice A n c] w (OpnP ⟨r, s6, sh, sl, d6, dh, dl, pr, 21⟩ w) := by
  obtain ⟨m, hm0⟩ : ∃ m, m = r.length := ⟨_, rfl⟩
  rw [← hm0] at HC
  have HM := Lib.hid hm0
  clear hm0
  obtain ⟨w0, hw0⟩ : ∃ w0, w0 = w.alloc (.cells #[.bool false, .int .u64 0, .int .u64 0] 32) := ⟨_, rfl⟩
  obtain ⟨w1, hw1⟩ : ∃ w1, w1 = w0.alloc (.cells #[.bool false, .int .u64 0, .int .u64 0] 32) := ⟨_, rfl⟩
  obtain ⟨p1, hp1⟩ : ∃ p1, p1 = w.heap.size := ⟨_, rfl⟩
  obtain ⟨p2, hp2⟩ : ∃ p2, p2 = p1 + 1 := ⟨_, rfl⟩
  have E0 := Lib.hid hw0
  have E1 := Lib.hid hw1
  have EP1 := Lib.hid hp1
  have EP2 := Lib.hid hp2
  have B0 := Lib.hid (show Below w.heap.size w w0 from by rw [hw0]; exact (Below.refl _ _).alloc (Nat.le_refl _) _)
  have B01 := Lib.hid (show Below w0.heap.size w0 w1 from by rw [hw1]; exact (Below.refl _ _).alloc (Nat.le_refl _) _)
  have B1 := Lib.hid (B0.out.trans (B01.out.mono B0.out.size))
  have K0 := Lib.hid (show Blk w0 p1 32 #[.bool false, .int .u64 0, .int .u64 0] from by rw [hw0, hp1]; exact Blk.new w _ _)
  have KA1 := Lib.hid (K0.out.below B01.out K0.out.lt)
  have KB1 := Lib.hid (show Blk w1 p2 32 #[.bool false, .int .u64 0, .int .u64 0] from by
    have e9 : p2 = w0.heap.size := by rw [hp2, hp1, hw0]; simp
    rw [hw1, e9]; exact Blk.new w0 _ _)
  have NE := Lib.hid (show p1 < p2 from by omega)
  clear hw0 hw1 hp1 hp2
  go_enter Try.func39, Try.ntmps39
  go_upto_region 1 with fail
  rw [← E0.out, ← EP1.out, ← EP2.out, ← E1.out]
  go_wp2_with fail
  refine (HC.out _ B1.out).mono ?_
  rintro o w2 ⟨hb2, tos, id, df, ttl, AO, no, co, AR, cr, rfl, hsl⟩
  obtain ⟨w3, hw3⟩ : ∃ w3, w3 = w2.alloc (.cells #[.int .i64 tos, .int .i64 id, .bool df, .bool true, .int .i64 0, .int .i64 ttl, .int .i64 pr, .bool s6, .int .u64 sh, .int .u64 sl, .bool d6, .int .u64 dh, .int .u64 dl, .slice AO no co] 53) := ⟨_, rfl⟩
  obtain ⟨h, hh⟩ : ∃ h, h = w2.heap.size := ⟨_, rfl⟩
  have EH := Lib.hid hh
  have E3 := Lib.hid hw3
  have B23 := Lib.hid (show Below w2.heap.size w2 w3 from by rw [hw3]; exact (Below.refl _ _).alloc (Nat.le_refl _) _)
  have B13 := Lib.hid (hb2.trans (B23.out.mono hb2.size))
  have KH3 := Lib.hid (show Blk w3 h 53 #[.int .i64 tos, .int .i64 id, .bool df, .bool true, .int .i64 0, .int .i64 ttl, .int .i64 pr, .bool s6, .int .u64 sh, .int .u64 sl, .bool d6, .int .u64 dh, .int .u64 dl, .slice AO no co] from by rw [hw3, hh]; exact Blk.new w2 _ _)
  have KA3 := Lib.hid (KA1.out.below B13.out KA1.out.lt)
  have KB3 := Lib.hid (KB1.out.below B13.out KB1.out.lt)
  have B3 := Lib.hid (B1.out.trans (B13.out.mono B1.out.size))
  have SL3 := Lib.hid (hsl.below B23.out)
  have QH := Lib.hid (show p2 < h from by have := KB1.out.lt; have := hb2.size; omega)
  clear hw3 hb2 hh hsl
  go_upto_region 2 with fail
  rw [← E3.out, ← EH.out]
  have k0 := KH3.out.cell 0
  have k1 := KH3.out.cell 1
  have k2 := KH3.out.cell 2
  have k3 := KH3.out.cell 3
  have k4 := KH3.out.cell 4
  have k5 := KH3.out.cell 5
  have k6 := KH3.out.cell 6
  have k7 := KH3.out.cell 7
  have k8 := KH3.out.cell 8
  have k9 := KH3.out.cell 9
  have k10 := KH3.out.cell 10
  have k11 := KH3.out.cell 11
  have k12 := KH3.out.cell 12
  have k13 := KH3.out.cell 13
  have y0 := KA3.out.cell 0
  have f0 := KA3.out.frozen 0
  have x0 := KB3.out.cell 0
  have g0 := KB3.out.frozen 0
  have y1 := KA3.out.cell 1
  have f1 := KA3.out.frozen 1
  have x1 := KB3.out.cell 1
  have g1 := KB3.out.frozen 1
  have y2 := KA3.out.cell 2
  have f2 := KA3.out.frozen 2
  have x2 := KB3.out.cell 2
  have g2 := KB3.out.frozen 2
  have HSF := Lib.hid (show ∀ V, Blk V h 53 #[.int .i64 tos, .int .i64 id, .bool df, .bool true, .int .i64 0, .int .i64 ttl, .int .i64 pr, .bool s6, .int .u64 sh, .int .u64 sl, .bool d6, .int .u64 dh, .int .u64 dl, .slice AO no co] → (V.cell? ⟨h, 7, none⟩ = some (.bool s6) ∧ V.cell? ⟨h, 8, none⟩ = some (.int .u64 sh) ∧ V.cell? ⟨h, 9, none⟩ = some (.int .u64 sl) ∧ V.cell? ⟨h, 10, none⟩ = some (.bool d6) ∧ V.cell? ⟨h, 11, none⟩ = some (.int .u64 dh) ∧ V.cell? ⟨h, 12, none⟩ = some (.int .u64 dl) ∧ V.cell? ⟨h, 6, none⟩ = some (.int .i64 pr)) from fun V q => ⟨q.cell 7, q.cell 8, q.cell 9, q.cell 10, q.cell 11, q.cell 12, q.cell 6⟩)
  have DR := Lib.hid (show ∀ (V : World) (g : Nat) (T : TypeId) (cs : Array Value), Blk V g T cs → Blk V.drew g T cs from fun V g T cs q => q.below (Below.refl _ _).drew q.lt)
  have n1 : h ≠ p1 := by have := QH.out; have := NE.out; omega
  have n2 : h ≠ p2 := by have := QH.out; omega
  have n3 : p1 ≠ p2 := by have := NE.out; omega
  have KHa := Lib.hid (afar w3 p1 h (.bool s6) (.int .u64 sh) (.int .u64 sl) _ _ n1 KH3.out)
  have KHab := Lib.hid (afar (((w3.setCell ⟨p1, 0, none⟩ (.bool s6)).setCell ⟨p1, 1, none⟩ (.int .u64 sh)).setCell ⟨p1, 2, none⟩ (.int .u64 sl)) p2 h (.bool d6) (.int .u64 dh) (.int .u64 dl) _ _ n2 KHa.out)
  have HS0 := Lib.hid (HSF.out w3.drew (DR.out _ _ _ _ KH3.out))
  have HSa := Lib.hid (HSF.out (((w3.setCell ⟨p1, 0, none⟩ (.bool s6)).setCell ⟨p1, 1, none⟩ (.int .u64 sh)).setCell ⟨p1, 2, none⟩ (.int .u64 sl)).drew (DR.out _ _ _ _ KHa.out))
  have HSab := Lib.hid (HSF.out ((((((w3.setCell ⟨p1, 0, none⟩ (.bool s6)).setCell ⟨p1, 1, none⟩ (.int .u64 sh)).setCell ⟨p1, 2, none⟩ (.int .u64 sl)).setCell ⟨p2, 0, none⟩ (.bool d6)).setCell ⟨p2, 1, none⟩ (.int .u64 dh)).setCell ⟨p2, 2, none⟩ (.int .u64 dl)).drew (DR.out _ _ _ _ KHab.out))
  have PBa := Lib.hid (afar w3 p1 p2 (.bool s6) (.int .u64 sh) (.int .u64 sl) _ _ (Ne.symm n3) KB3.out)
  have PAa := Lib.hid (astore w3 p1 (.bool s6) (.int .u64 sh) (.int .u64 sl) _ _ _ KA3.out)
  have PAab := Lib.hid (afar (((w3.setCell ⟨p1, 0, none⟩ (.bool s6)).setCell ⟨p1, 1, none⟩ (.int .u64 sh)).setCell ⟨p1, 2, none⟩ (.int .u64 sl)) p2 p1 (.bool d6) (.int .u64 dh) (.int .u64 dl) _ _ n3 PAa.out)
  have PBab := Lib.hid (astore (((w3.setCell ⟨p1, 0, none⟩ (.bool s6)).setCell ⟨p1, 1, none⟩ (.int .u64 sh)).setCell ⟨p1, 2, none⟩ (.int .u64 sl)) p2 (.bool d6) (.int .u64 dh) (.int .u64 dl) _ _ _ PBa.out)
  have OGab := Lib.hid ((aonly w3 p1 (.bool s6) (.int .u64 sh) (.int .u64 sl)).from B3.out (by have := EP1.out; omega))
  have OAB := Lib.hid ((aonly (((w3.setCell ⟨p1, 0, none⟩ (.bool s6)).setCell ⟨p1, 1, none⟩ (.int .u64 sh)).setCell ⟨p1, 2, none⟩ (.int .u64 sl)) p2 (.bool d6) (.int .u64 dh) (.int .u64 dl)).from OGab.out (by have := EP1.out; have := EP2.out; omega))
  have xa0 := PBa.out.cell 0
  have ga0 := PBa.out.frozen 0
  have xa1 := PBa.out.cell 1
  have ga1 := PBa.out.frozen 1
  have xa2 := PBa.out.cell 2
  have ga2 := PBa.out.frozen 2
  clear n1 n2 n3
  go_upto_region 4 with fail
  go_region_held3 (fun V => V.cell? ⟨h, 7, none⟩ = some (.bool s6) ∧ V.cell? ⟨h, 8, none⟩ = some (.int .u64 sh) ∧ V.cell? ⟨h, 9, none⟩ = some (.int .u64 sl) ∧ V.cell? ⟨h, 10, none⟩ = some (.bool d6) ∧ V.cell? ⟨h, 11, none⟩ = some (.int .u64 dh) ∧ V.cell? ⟨h, 12, none⟩ = some (.int .u64 dl) ∧ V.cell? ⟨h, 6, none⟩ = some (.int .i64 pr)) (first | with_reducible assumption | with_reducible exact HS0.out | with_reducible exact HSa.out | with_reducible exact HSab.out) (first | fail)
  go_wp2_with fail
  have hm := HM.out
  subst hm
  refine bodyPost_ret (results_open rfl _ _ p1 p2 #[.bool s6, .int .u64 sh, .int .u64 sl] #[.bool d6, .int .u64 dh, .int .u64 dl] rfl rfl (DR.out _ _ _ _ PAab.out) (DR.out _ _ _ _ PBab.out) rfl rfl) rfl ?_
  exact ⟨OAB.out.drew, AR, cr, rfl, (Sl_apart (Sl_apart SL3.out (aonly _ _ _ _ _) KA3.out) (aonly _ _ _ _ _) PBa.out).below (Below.refl _ _).drew⟩
set_option maxHeartbeats 4000000 in
set_option maxRecDepth 100000 in
theorem open4_g (A : Option Addr) (n c : Nat) (pr : Int) (s6 : Bool) (sh sl : Int) (d6 : Bool) (dh dl : Int) (r : List Int) (w : World)
    (HC : Hid (∀ V, Below w.heap.size w V → Calls Try.prog 21 #[.slice A n c] V fun o w' => Below V.heap.size V w' ∧ ∃ (tos id : Int) (df : Bool) (ttl : Int) (AO : Option Addr) (no co : Nat) (AR : Option Addr) (cr : Nat), o = .returned (.tuple #[.agg #[.int .i64 tos, .int .i64 id, .bool df, .bool false, .int .i64 0, .int .i64 ttl, .int .i64 pr, .bool s6, .int .u64 sh, .int .u64 sl, .bool d6, .int .u64 dh, .int .u64 dl, .slice AO no co], .slice AR r.length cr, .int .i64 0]) ∧ Sl w' AR r.length cr r)) :
    Calls Try.prog 39 #[.slice A n c] w (OpnP ⟨r, s6, sh, sl, d6, dh, dl, pr, 0⟩ w) := by
  obtain ⟨m, hm0⟩ : ∃ m, m = r.length := ⟨_, rfl⟩
  rw [← hm0] at HC
  have HM := Lib.hid hm0
  clear hm0
  obtain ⟨w0, hw0⟩ : ∃ w0, w0 = w.alloc (.cells #[.bool false, .int .u64 0, .int .u64 0] 32) := ⟨_, rfl⟩
  obtain ⟨w1, hw1⟩ : ∃ w1, w1 = w0.alloc (.cells #[.bool false, .int .u64 0, .int .u64 0] 32) := ⟨_, rfl⟩
  obtain ⟨p1, hp1⟩ : ∃ p1, p1 = w.heap.size := ⟨_, rfl⟩
  obtain ⟨p2, hp2⟩ : ∃ p2, p2 = p1 + 1 := ⟨_, rfl⟩
  have E0 := Lib.hid hw0
  have E1 := Lib.hid hw1
  have EP1 := Lib.hid hp1
  have EP2 := Lib.hid hp2
  have B0 := Lib.hid (show Below w.heap.size w w0 from by rw [hw0]; exact (Below.refl _ _).alloc (Nat.le_refl _) _)
  have B01 := Lib.hid (show Below w0.heap.size w0 w1 from by rw [hw1]; exact (Below.refl _ _).alloc (Nat.le_refl _) _)
  have B1 := Lib.hid (B0.out.trans (B01.out.mono B0.out.size))
  have K0 := Lib.hid (show Blk w0 p1 32 #[.bool false, .int .u64 0, .int .u64 0] from by rw [hw0, hp1]; exact Blk.new w _ _)
  have KA1 := Lib.hid (K0.out.below B01.out K0.out.lt)
  have KB1 := Lib.hid (show Blk w1 p2 32 #[.bool false, .int .u64 0, .int .u64 0] from by
    have e9 : p2 = w0.heap.size := by rw [hp2, hp1, hw0]; simp
    rw [hw1, e9]; exact Blk.new w0 _ _)
  have NE := Lib.hid (show p1 < p2 from by omega)
  clear hw0 hw1 hp1 hp2
  go_enter Try.func39, Try.ntmps39
  go_upto_region 1 with fail
  rw [← E0.out, ← EP1.out, ← EP2.out, ← E1.out]
  go_wp2_with fail
  refine (HC.out _ B1.out).mono ?_
  rintro o w2 ⟨hb2, tos, id, df, ttl, AO, no, co, AR, cr, rfl, hsl⟩
  obtain ⟨w3, hw3⟩ : ∃ w3, w3 = w2.alloc (.cells #[.int .i64 tos, .int .i64 id, .bool df, .bool false, .int .i64 0, .int .i64 ttl, .int .i64 pr, .bool s6, .int .u64 sh, .int .u64 sl, .bool d6, .int .u64 dh, .int .u64 dl, .slice AO no co] 53) := ⟨_, rfl⟩
  obtain ⟨h, hh⟩ : ∃ h, h = w2.heap.size := ⟨_, rfl⟩
  have EH := Lib.hid hh
  have E3 := Lib.hid hw3
  have B23 := Lib.hid (show Below w2.heap.size w2 w3 from by rw [hw3]; exact (Below.refl _ _).alloc (Nat.le_refl _) _)
  have B13 := Lib.hid (hb2.trans (B23.out.mono hb2.size))
  have KH3 := Lib.hid (show Blk w3 h 53 #[.int .i64 tos, .int .i64 id, .bool df, .bool false, .int .i64 0, .int .i64 ttl, .int .i64 pr, .bool s6, .int .u64 sh, .int .u64 sl, .bool d6, .int .u64 dh, .int .u64 dl, .slice AO no co] from by rw [hw3, hh]; exact Blk.new w2 _ _)
  have KA3 := Lib.hid (KA1.out.below B13.out KA1.out.lt)
  have KB3 := Lib.hid (KB1.out.below B13.out KB1.out.lt)
  have B3 := Lib.hid (B1.out.trans (B13.out.mono B1.out.size))
  have SL3 := Lib.hid (hsl.below B23.out)
  have QH := Lib.hid (show p2 < h from by have := KB1.out.lt; have := hb2.size; omega)
  clear hw3 hb2 hh hsl
  go_upto_region 2 with fail
  rw [← E3.out, ← EH.out]
  have k0 := KH3.out.cell 0
  have k1 := KH3.out.cell 1
  have k2 := KH3.out.cell 2
  have k3 := KH3.out.cell 3
  have k4 := KH3.out.cell 4
  have k5 := KH3.out.cell 5
  have k6 := KH3.out.cell 6
  have k7 := KH3.out.cell 7
  have k8 := KH3.out.cell 8
  have k9 := KH3.out.cell 9
  have k10 := KH3.out.cell 10
  have k11 := KH3.out.cell 11
  have k12 := KH3.out.cell 12
  have k13 := KH3.out.cell 13
  have y0 := KA3.out.cell 0
  have f0 := KA3.out.frozen 0
  have x0 := KB3.out.cell 0
  have g0 := KB3.out.frozen 0
  have y1 := KA3.out.cell 1
  have f1 := KA3.out.frozen 1
  have x1 := KB3.out.cell 1
  have g1 := KB3.out.frozen 1
  have y2 := KA3.out.cell 2
  have f2 := KA3.out.frozen 2
  have x2 := KB3.out.cell 2
  have g2 := KB3.out.frozen 2
  have HSF := Lib.hid (show ∀ V, Blk V h 53 #[.int .i64 tos, .int .i64 id, .bool df, .bool false, .int .i64 0, .int .i64 ttl, .int .i64 pr, .bool s6, .int .u64 sh, .int .u64 sl, .bool d6, .int .u64 dh, .int .u64 dl, .slice AO no co] → (V.cell? ⟨h, 7, none⟩ = some (.bool s6) ∧ V.cell? ⟨h, 8, none⟩ = some (.int .u64 sh) ∧ V.cell? ⟨h, 9, none⟩ = some (.int .u64 sl) ∧ V.cell? ⟨h, 10, none⟩ = some (.bool d6) ∧ V.cell? ⟨h, 11, none⟩ = some (.int .u64 dh) ∧ V.cell? ⟨h, 12, none⟩ = some (.int .u64 dl) ∧ V.cell? ⟨h, 6, none⟩ = some (.int .i64 pr)) from fun V q => ⟨q.cell 7, q.cell 8, q.cell 9, q.cell 10, q.cell 11, q.cell 12, q.cell 6⟩)
  have DR := Lib.hid (show ∀ (V : World) (g : Nat) (T : TypeId) (cs : Array Value), Blk V g T cs → Blk V.drew g T cs from fun V g T cs q => q.below (Below.refl _ _).drew q.lt)
  have n1 : h ≠ p1 := by have := QH.out; have := NE.out; omega
  have n2 : h ≠ p2 := by have := QH.out; omega
  have n3 : p1 ≠ p2 := by have := NE.out; omega
  have KHa := Lib.hid (afar w3 p1 h (.bool s6) (.int .u64 sh) (.int .u64 sl) _ _ n1 KH3.out)
  have KHab := Lib.hid (afar (((w3.setCell ⟨p1, 0, none⟩ (.bool s6)).setCell ⟨p1, 1, none⟩ (.int .u64 sh)).setCell ⟨p1, 2, none⟩ (.int .u64 sl)) p2 h (.bool d6) (.int .u64 dh) (.int .u64 dl) _ _ n2 KHa.out)
  have HS0 := Lib.hid (HSF.out w3.drew (DR.out _ _ _ _ KH3.out))
  have HSa := Lib.hid (HSF.out (((w3.setCell ⟨p1, 0, none⟩ (.bool s6)).setCell ⟨p1, 1, none⟩ (.int .u64 sh)).setCell ⟨p1, 2, none⟩ (.int .u64 sl)).drew (DR.out _ _ _ _ KHa.out))
  have HSab := Lib.hid (HSF.out ((((((w3.setCell ⟨p1, 0, none⟩ (.bool s6)).setCell ⟨p1, 1, none⟩ (.int .u64 sh)).setCell ⟨p1, 2, none⟩ (.int .u64 sl)).setCell ⟨p2, 0, none⟩ (.bool d6)).setCell ⟨p2, 1, none⟩ (.int .u64 dh)).setCell ⟨p2, 2, none⟩ (.int .u64 dl)).drew (DR.out _ _ _ _ KHab.out))
  have PBa := Lib.hid (afar w3 p1 p2 (.bool s6) (.int .u64 sh) (.int .u64 sl) _ _ (Ne.symm n3) KB3.out)
  have PAa := Lib.hid (astore w3 p1 (.bool s6) (.int .u64 sh) (.int .u64 sl) _ _ _ KA3.out)
  have PAab := Lib.hid (afar (((w3.setCell ⟨p1, 0, none⟩ (.bool s6)).setCell ⟨p1, 1, none⟩ (.int .u64 sh)).setCell ⟨p1, 2, none⟩ (.int .u64 sl)) p2 p1 (.bool d6) (.int .u64 dh) (.int .u64 dl) _ _ n3 PAa.out)
  have PBab := Lib.hid (astore (((w3.setCell ⟨p1, 0, none⟩ (.bool s6)).setCell ⟨p1, 1, none⟩ (.int .u64 sh)).setCell ⟨p1, 2, none⟩ (.int .u64 sl)) p2 (.bool d6) (.int .u64 dh) (.int .u64 dl) _ _ _ PBa.out)
  have OGab := Lib.hid ((aonly w3 p1 (.bool s6) (.int .u64 sh) (.int .u64 sl)).from B3.out (by have := EP1.out; omega))
  have OAB := Lib.hid ((aonly (((w3.setCell ⟨p1, 0, none⟩ (.bool s6)).setCell ⟨p1, 1, none⟩ (.int .u64 sh)).setCell ⟨p1, 2, none⟩ (.int .u64 sl)) p2 (.bool d6) (.int .u64 dh) (.int .u64 dl)).from OGab.out (by have := EP1.out; have := EP2.out; omega))
  have xa0 := PBa.out.cell 0
  have ga0 := PBa.out.frozen 0
  have xa1 := PBa.out.cell 1
  have ga1 := PBa.out.frozen 1
  have xa2 := PBa.out.cell 2
  have ga2 := PBa.out.frozen 2
  clear n1 n2 n3
  go_upto_region 4 with fail
  go_region_held3 (fun V => V.cell? ⟨h, 7, none⟩ = some (.bool s6) ∧ V.cell? ⟨h, 8, none⟩ = some (.int .u64 sh) ∧ V.cell? ⟨h, 9, none⟩ = some (.int .u64 sl) ∧ V.cell? ⟨h, 10, none⟩ = some (.bool d6) ∧ V.cell? ⟨h, 11, none⟩ = some (.int .u64 dh) ∧ V.cell? ⟨h, 12, none⟩ = some (.int .u64 dl) ∧ V.cell? ⟨h, 6, none⟩ = some (.int .i64 pr)) (first | with_reducible assumption | with_reducible exact HS0.out | with_reducible exact HSa.out | with_reducible exact HSab.out) (first | fail)
  go_wp2_with fail
  have hm := HM.out
  subst hm
  refine bodyPost_ret (results_open rfl _ _ p1 p2 #[.bool s6, .int .u64 sh, .int .u64 sl] #[.bool d6, .int .u64 dh, .int .u64 dl] rfl rfl (DR.out _ _ _ _ PAab.out) (DR.out _ _ _ _ PBab.out) rfl rfl) rfl ?_
  exact ⟨OAB.out.drew, AR, cr, rfl, (Sl_apart (Sl_apart SL3.out (aonly _ _ _ _ _) KA3.out) (aonly _ _ _ _ _) PBa.out).below (Below.refl _ _).drew⟩
set_option maxHeartbeats 4000000 in
set_option maxRecDepth 100000 in
theorem open6_e (A : Option Addr) (n c : Nat) (pr e : Int) (s6 : Bool) (sh sl : Int) (d6 : Bool) (dh dl : Int) (r : List Int) (he : e ≠ 0) (w : World)
    (HC : Hid (∀ V, Below w.heap.size w V → Calls Try.prog 19 #[.slice A n c] V fun o w' => Below V.heap.size V w' ∧ ∃ (cls lab ttl : Int) (AO : Option Addr) (no co : Nat) (AR : Option Addr) (cr : Nat), o = .returned (.tuple #[.agg #[.int .i64 cls, .int .i64 lab, .int .i64 ttl, .bool s6, .int .u64 sh, .int .u64 sl, .bool d6, .int .u64 dh, .int .u64 dl, .slice AO no co, .int .i64 pr], .slice AR r.length cr, .int .i64 e]) ∧ Sl w' AR r.length cr r)) :
    Calls Try.prog 40 #[.slice A n c] w (OpnP ⟨r, s6, sh, sl, d6, dh, dl, pr, e⟩ w) := by
  obtain ⟨m, hm0⟩ : ∃ m, m = r.length := ⟨_, rfl⟩
  rw [← hm0] at HC
  have HM := Lib.hid hm0
  clear hm0
  have t1 : (e == 0) = false := by simpa using he
  clear he
  obtain ⟨w0, hw0⟩ : ∃ w0, w0 = w.alloc (.cells #[.bool false, .int .u64 0, .int .u64 0] 32) := ⟨_, rfl⟩
  obtain ⟨w1, hw1⟩ : ∃ w1, w1 = w0.alloc (.cells #[.bool false, .int .u64 0, .int .u64 0] 32) := ⟨_, rfl⟩
  obtain ⟨p1, hp1⟩ : ∃ p1, p1 = w.heap.size := ⟨_, rfl⟩
  obtain ⟨p2, hp2⟩ : ∃ p2, p2 = p1 + 1 := ⟨_, rfl⟩
  have E0 := Lib.hid hw0
  have E1 := Lib.hid hw1
  have EP1 := Lib.hid hp1
  have EP2 := Lib.hid hp2
  have B0 := Lib.hid (show Below w.heap.size w w0 from by rw [hw0]; exact (Below.refl _ _).alloc (Nat.le_refl _) _)
  have B01 := Lib.hid (show Below w0.heap.size w0 w1 from by rw [hw1]; exact (Below.refl _ _).alloc (Nat.le_refl _) _)
  have B1 := Lib.hid (B0.out.trans (B01.out.mono B0.out.size))
  have K0 := Lib.hid (show Blk w0 p1 32 #[.bool false, .int .u64 0, .int .u64 0] from by rw [hw0, hp1]; exact Blk.new w _ _)
  have KA1 := Lib.hid (K0.out.below B01.out K0.out.lt)
  have KB1 := Lib.hid (show Blk w1 p2 32 #[.bool false, .int .u64 0, .int .u64 0] from by
    have e9 : p2 = w0.heap.size := by rw [hp2, hp1, hw0]; simp
    rw [hw1, e9]; exact Blk.new w0 _ _)
  have NE := Lib.hid (show p1 < p2 from by omega)
  clear hw0 hw1 hp1 hp2
  go_enter Try.func40, Try.ntmps40
  go_upto_region 1 with fail
  rw [← E0.out, ← EP1.out, ← EP2.out, ← E1.out]
  go_wp2_with fail
  refine (HC.out _ B1.out).mono ?_
  rintro o w2 ⟨hb2, cls, lab, ttl, AO, no, co, AR, cr, rfl, hsl⟩
  obtain ⟨w3, hw3⟩ : ∃ w3, w3 = w2.alloc (.cells #[.int .i64 cls, .int .i64 lab, .int .i64 ttl, .bool s6, .int .u64 sh, .int .u64 sl, .bool d6, .int .u64 dh, .int .u64 dl, .slice AO no co, .int .i64 pr] 48) := ⟨_, rfl⟩
  obtain ⟨h, hh⟩ : ∃ h, h = w2.heap.size := ⟨_, rfl⟩
  have EH := Lib.hid hh
  have E3 := Lib.hid hw3
  have B23 := Lib.hid (show Below w2.heap.size w2 w3 from by rw [hw3]; exact (Below.refl _ _).alloc (Nat.le_refl _) _)
  have B13 := Lib.hid (hb2.trans (B23.out.mono hb2.size))
  have KH3 := Lib.hid (show Blk w3 h 48 #[.int .i64 cls, .int .i64 lab, .int .i64 ttl, .bool s6, .int .u64 sh, .int .u64 sl, .bool d6, .int .u64 dh, .int .u64 dl, .slice AO no co, .int .i64 pr] from by rw [hw3, hh]; exact Blk.new w2 _ _)
  have KA3 := Lib.hid (KA1.out.below B13.out KA1.out.lt)
  have KB3 := Lib.hid (KB1.out.below B13.out KB1.out.lt)
  have B3 := Lib.hid (B1.out.trans (B13.out.mono B1.out.size))
  have SL3 := Lib.hid (hsl.below B23.out)
  have QH := Lib.hid (show p2 < h from by have := KB1.out.lt; have := hb2.size; omega)
  clear hw3 hb2 hh hsl
  go_upto_region 2 with fail
  rw [← E3.out, ← EH.out]
  have k0 := KH3.out.cell 0
  have k1 := KH3.out.cell 1
  have k2 := KH3.out.cell 2
  have k3 := KH3.out.cell 3
  have k4 := KH3.out.cell 4
  have k5 := KH3.out.cell 5
  have k6 := KH3.out.cell 6
  have k7 := KH3.out.cell 7
  have k8 := KH3.out.cell 8
  have k9 := KH3.out.cell 9
  have k10 := KH3.out.cell 10
  have y0 := KA3.out.cell 0
  have f0 := KA3.out.frozen 0
  have x0 := KB3.out.cell 0
  have g0 := KB3.out.frozen 0
  have y1 := KA3.out.cell 1
  have f1 := KA3.out.frozen 1
  have x1 := KB3.out.cell 1
  have g1 := KB3.out.frozen 1
  have y2 := KA3.out.cell 2
  have f2 := KA3.out.frozen 2
  have x2 := KB3.out.cell 2
  have g2 := KB3.out.frozen 2
  have HSF := Lib.hid (show ∀ V, Blk V h 48 #[.int .i64 cls, .int .i64 lab, .int .i64 ttl, .bool s6, .int .u64 sh, .int .u64 sl, .bool d6, .int .u64 dh, .int .u64 dl, .slice AO no co, .int .i64 pr] → (V.cell? ⟨h, 3, none⟩ = some (.bool s6) ∧ V.cell? ⟨h, 4, none⟩ = some (.int .u64 sh) ∧ V.cell? ⟨h, 5, none⟩ = some (.int .u64 sl) ∧ V.cell? ⟨h, 6, none⟩ = some (.bool d6) ∧ V.cell? ⟨h, 7, none⟩ = some (.int .u64 dh) ∧ V.cell? ⟨h, 8, none⟩ = some (.int .u64 dl) ∧ V.cell? ⟨h, 10, none⟩ = some (.int .i64 pr)) from fun V q => ⟨q.cell 3, q.cell 4, q.cell 5, q.cell 6, q.cell 7, q.cell 8, q.cell 10⟩)
  have DR := Lib.hid (show ∀ (V : World) (g : Nat) (T : TypeId) (cs : Array Value), Blk V g T cs → Blk V.drew g T cs from fun V g T cs q => q.below (Below.refl _ _).drew q.lt)
  have n1 : h ≠ p1 := by have := QH.out; have := NE.out; omega
  have n2 : h ≠ p2 := by have := QH.out; omega
  have n3 : p1 ≠ p2 := by have := NE.out; omega
  have KHa := Lib.hid (afar w3 p1 h (.bool s6) (.int .u64 sh) (.int .u64 sl) _ _ n1 KH3.out)
  have KHab := Lib.hid (afar (((w3.setCell ⟨p1, 0, none⟩ (.bool s6)).setCell ⟨p1, 1, none⟩ (.int .u64 sh)).setCell ⟨p1, 2, none⟩ (.int .u64 sl)) p2 h (.bool d6) (.int .u64 dh) (.int .u64 dl) _ _ n2 KHa.out)
  have HS0 := Lib.hid (HSF.out w3.drew (DR.out _ _ _ _ KH3.out))
  have HSa := Lib.hid (HSF.out (((w3.setCell ⟨p1, 0, none⟩ (.bool s6)).setCell ⟨p1, 1, none⟩ (.int .u64 sh)).setCell ⟨p1, 2, none⟩ (.int .u64 sl)).drew (DR.out _ _ _ _ KHa.out))
  have HSab := Lib.hid (HSF.out ((((((w3.setCell ⟨p1, 0, none⟩ (.bool s6)).setCell ⟨p1, 1, none⟩ (.int .u64 sh)).setCell ⟨p1, 2, none⟩ (.int .u64 sl)).setCell ⟨p2, 0, none⟩ (.bool d6)).setCell ⟨p2, 1, none⟩ (.int .u64 dh)).setCell ⟨p2, 2, none⟩ (.int .u64 dl)).drew (DR.out _ _ _ _ KHab.out))
  have PBa := Lib.hid (afar w3 p1 p2 (.bool s6) (.int .u64 sh) (.int .u64 sl) _ _ (Ne.symm n3) KB3.out)
  have PAa := Lib.hid (astore w3 p1 (.bool s6) (.int .u64 sh) (.int .u64 sl) _ _ _ KA3.out)
  have PAab := Lib.hid (afar (((w3.setCell ⟨p1, 0, none⟩ (.bool s6)).setCell ⟨p1, 1, none⟩ (.int .u64 sh)).setCell ⟨p1, 2, none⟩ (.int .u64 sl)) p2 p1 (.bool d6) (.int .u64 dh) (.int .u64 dl) _ _ n3 PAa.out)
  have PBab := Lib.hid (astore (((w3.setCell ⟨p1, 0, none⟩ (.bool s6)).setCell ⟨p1, 1, none⟩ (.int .u64 sh)).setCell ⟨p1, 2, none⟩ (.int .u64 sl)) p2 (.bool d6) (.int .u64 dh) (.int .u64 dl) _ _ _ PBa.out)
  have OGab := Lib.hid ((aonly w3 p1 (.bool s6) (.int .u64 sh) (.int .u64 sl)).from B3.out (by have := EP1.out; omega))
  have OAB := Lib.hid ((aonly (((w3.setCell ⟨p1, 0, none⟩ (.bool s6)).setCell ⟨p1, 1, none⟩ (.int .u64 sh)).setCell ⟨p1, 2, none⟩ (.int .u64 sl)) p2 (.bool d6) (.int .u64 dh) (.int .u64 dl)).from OGab.out (by have := EP1.out; have := EP2.out; omega))
  have xa0 := PBa.out.cell 0
  have ga0 := PBa.out.frozen 0
  have xa1 := PBa.out.cell 1
  have ga1 := PBa.out.frozen 1
  have xa2 := PBa.out.cell 2
  have ga2 := PBa.out.frozen 2
  clear n1 n2 n3
  go_upto_region 4 with fail
  go_region_held3 (fun V => V.cell? ⟨h, 3, none⟩ = some (.bool s6) ∧ V.cell? ⟨h, 4, none⟩ = some (.int .u64 sh) ∧ V.cell? ⟨h, 5, none⟩ = some (.int .u64 sl) ∧ V.cell? ⟨h, 6, none⟩ = some (.bool d6) ∧ V.cell? ⟨h, 7, none⟩ = some (.int .u64 dh) ∧ V.cell? ⟨h, 8, none⟩ = some (.int .u64 dl) ∧ V.cell? ⟨h, 10, none⟩ = some (.int .i64 pr)) (first | with_reducible assumption | with_reducible exact HS0.out | with_reducible exact HSa.out | with_reducible exact HSab.out) (first | fail)
  go_wp2_with fail
  have hm := HM.out
  subst hm
  refine bodyPost_ret (results_open rfl _ _ p1 p2 #[.bool s6, .int .u64 sh, .int .u64 sl] #[.bool d6, .int .u64 dh, .int .u64 dl] rfl rfl (DR.out _ _ _ _ PAab.out) (DR.out _ _ _ _ PBab.out) rfl rfl) rfl ?_
  exact ⟨OAB.out.drew, AR, cr, rfl, (Sl_apart (Sl_apart SL3.out (aonly _ _ _ _ _) KA3.out) (aonly _ _ _ _ _) PBa.out).below (Below.refl _ _).drew⟩
set_option maxHeartbeats 4000000 in
set_option maxRecDepth 100000 in
theorem open6_f (A : Option Addr) (n c : Nat) (fr pr : Int) (s6 : Bool) (sh sl : Int) (d6 : Bool) (dh dl : Int) (r : List Int) (hf : fr ≠ 0) (w : World)
    (HC : Hid (∀ V, Below w.heap.size w V → Calls Try.prog 19 #[.slice A n c] V fun o w' => Below V.heap.size V w' ∧ ∃ (cls lab ttl : Int) (AO : Option Addr) (no co : Nat) (AR : Option Addr) (cr : Nat), o = .returned (.tuple #[.agg #[.int .i64 cls, .int .i64 lab, .int .i64 ttl, .bool s6, .int .u64 sh, .int .u64 sl, .bool d6, .int .u64 dh, .int .u64 dl, .slice AO no co, .int .i64 pr], .slice AR r.length cr, .int .i64 0]) ∧ Sl w' AR r.length cr r ∧ (∀ V2, Below w'.heap.size w' V2 → Calls Try.prog 20 #[.agg #[.int .i64 cls, .int .i64 lab, .int .i64 ttl, .bool s6, .int .u64 sh, .int .u64 sl, .bool d6, .int .u64 dh, .int .u64 dl, .slice AO no co, .int .i64 pr]] V2 fun o w' => o = .returned (.int .i64 fr) ∧ Below V2.heap.size V2 w'))) :
    Calls Try.prog 40 #[.slice A n c] w (OpnP ⟨r, s6, sh, sl, d6, dh, dl, pr, 21⟩ w) := by
  obtain ⟨m, hm0⟩ : ∃ m, m = r.length := ⟨_, rfl⟩
  rw [← hm0] at HC
  have HM := Lib.hid hm0
  clear hm0
  have t2 : (fr != 0) = true := by simpa using hf
  clear hf
  obtain ⟨w0, hw0⟩ : ∃ w0, w0 = w.alloc (.cells #[.bool false, .int .u64 0, .int .u64 0] 32) := ⟨_, rfl⟩
  obtain ⟨w1, hw1⟩ : ∃ w1, w1 = w0.alloc (.cells #[.bool false, .int .u64 0, .int .u64 0] 32) := ⟨_, rfl⟩
  obtain ⟨p1, hp1⟩ : ∃ p1, p1 = w.heap.size := ⟨_, rfl⟩
  obtain ⟨p2, hp2⟩ : ∃ p2, p2 = p1 + 1 := ⟨_, rfl⟩
  have E0 := Lib.hid hw0
  have E1 := Lib.hid hw1
  have EP1 := Lib.hid hp1
  have EP2 := Lib.hid hp2
  have B0 := Lib.hid (show Below w.heap.size w w0 from by rw [hw0]; exact (Below.refl _ _).alloc (Nat.le_refl _) _)
  have B01 := Lib.hid (show Below w0.heap.size w0 w1 from by rw [hw1]; exact (Below.refl _ _).alloc (Nat.le_refl _) _)
  have B1 := Lib.hid (B0.out.trans (B01.out.mono B0.out.size))
  have K0 := Lib.hid (show Blk w0 p1 32 #[.bool false, .int .u64 0, .int .u64 0] from by rw [hw0, hp1]; exact Blk.new w _ _)
  have KA1 := Lib.hid (K0.out.below B01.out K0.out.lt)
  have KB1 := Lib.hid (show Blk w1 p2 32 #[.bool false, .int .u64 0, .int .u64 0] from by
    have e9 : p2 = w0.heap.size := by rw [hp2, hp1, hw0]; simp
    rw [hw1, e9]; exact Blk.new w0 _ _)
  have NE := Lib.hid (show p1 < p2 from by omega)
  clear hw0 hw1 hp1 hp2
  go_enter Try.func40, Try.ntmps40
  go_upto_region 1 with fail
  rw [← E0.out, ← EP1.out, ← EP2.out, ← E1.out]
  go_wp2_with fail
  refine (HC.out _ B1.out).mono ?_
  rintro o w2 ⟨hb2, cls, lab, ttl, AO, no, co, AR, cr, rfl, hsl, hfg⟩
  obtain ⟨w3, hw3⟩ : ∃ w3, w3 = w2.alloc (.cells #[.int .i64 cls, .int .i64 lab, .int .i64 ttl, .bool s6, .int .u64 sh, .int .u64 sl, .bool d6, .int .u64 dh, .int .u64 dl, .slice AO no co, .int .i64 pr] 48) := ⟨_, rfl⟩
  obtain ⟨h, hh⟩ : ∃ h, h = w2.heap.size := ⟨_, rfl⟩
  have EH := Lib.hid hh
  have E3 := Lib.hid hw3
  have B23 := Lib.hid (show Below w2.heap.size w2 w3 from by rw [hw3]; exact (Below.refl _ _).alloc (Nat.le_refl _) _)
  have B13 := Lib.hid (hb2.trans (B23.out.mono hb2.size))
  have KH3 := Lib.hid (show Blk w3 h 48 #[.int .i64 cls, .int .i64 lab, .int .i64 ttl, .bool s6, .int .u64 sh, .int .u64 sl, .bool d6, .int .u64 dh, .int .u64 dl, .slice AO no co, .int .i64 pr] from by rw [hw3, hh]; exact Blk.new w2 _ _)
  have KA3 := Lib.hid (KA1.out.below B13.out KA1.out.lt)
  have KB3 := Lib.hid (KB1.out.below B13.out KB1.out.lt)
  have B3 := Lib.hid (B1.out.trans (B13.out.mono B1.out.size))
  have SL3 := Lib.hid (hsl.below B23.out)
  have QH := Lib.hid (show p2 < h from by have := KB1.out.lt; have := hb2.size; omega)
  have HFG := Lib.hid hfg
  clear hw3 hb2 hh hsl hfg
  go_upto_region 2 with fail
  rw [← E3.out, ← EH.out]
  have k0 := KH3.out.cell 0
  have k1 := KH3.out.cell 1
  have k2 := KH3.out.cell 2
  have k3 := KH3.out.cell 3
  have k4 := KH3.out.cell 4
  have k5 := KH3.out.cell 5
  have k6 := KH3.out.cell 6
  have k7 := KH3.out.cell 7
  have k8 := KH3.out.cell 8
  have k9 := KH3.out.cell 9
  have k10 := KH3.out.cell 10
  go_wp2_with fail
  refine (HFG.out w3 B23.out).mono ?_
  rintro o w3b ⟨rfl, hb⟩
  have KH3b := Lib.hid (KH3.out.below hb KH3.out.lt)
  have KA3b := Lib.hid (KA3.out.below hb KA3.out.lt)
  have KB3b := Lib.hid (KB3.out.below hb KB3.out.lt)
  have B3b := Lib.hid (B3.out.trans (hb.mono B3.out.size))
  have SL3b := Lib.hid (SL3.out.below hb)
  clear hb k0 k1 k2 k3 k4 k5 k6 k7 k8 k9 k10
  have k3 := KH3b.out.cell 3
  have k4 := KH3b.out.cell 4
  have k5 := KH3b.out.cell 5
  have k6 := KH3b.out.cell 6
  have k7 := KH3b.out.cell 7
  have k8 := KH3b.out.cell 8
  have k10 := KH3b.out.cell 10
  have y0 := KA3b.out.cell 0
  have f0 := KA3b.out.frozen 0
  have x0 := KB3b.out.cell 0
  have g0 := KB3b.out.frozen 0
  have y1 := KA3b.out.cell 1
  have f1 := KA3b.out.frozen 1
  have x1 := KB3b.out.cell 1
  have g1 := KB3b.out.frozen 1
  have y2 := KA3b.out.cell 2
  have f2 := KA3b.out.frozen 2
  have x2 := KB3b.out.cell 2
  have g2 := KB3b.out.frozen 2
  have HSF := Lib.hid (show ∀ V, Blk V h 48 #[.int .i64 cls, .int .i64 lab, .int .i64 ttl, .bool s6, .int .u64 sh, .int .u64 sl, .bool d6, .int .u64 dh, .int .u64 dl, .slice AO no co, .int .i64 pr] → (V.cell? ⟨h, 3, none⟩ = some (.bool s6) ∧ V.cell? ⟨h, 4, none⟩ = some (.int .u64 sh) ∧ V.cell? ⟨h, 5, none⟩ = some (.int .u64 sl) ∧ V.cell? ⟨h, 6, none⟩ = some (.bool d6) ∧ V.cell? ⟨h, 7, none⟩ = some (.int .u64 dh) ∧ V.cell? ⟨h, 8, none⟩ = some (.int .u64 dl) ∧ V.cell? ⟨h, 10, none⟩ = some (.int .i64 pr)) from fun V q => ⟨q.cell 3, q.cell 4, q.cell 5, q.cell 6, q.cell 7, q.cell 8, q.cell 10⟩)
  have DR := Lib.hid (show ∀ (V : World) (g : Nat) (T : TypeId) (cs : Array Value), Blk V g T cs → Blk V.drew g T cs from fun V g T cs q => q.below (Below.refl _ _).drew q.lt)
  have n1 : h ≠ p1 := by have := QH.out; have := NE.out; omega
  have n2 : h ≠ p2 := by have := QH.out; omega
  have n3 : p1 ≠ p2 := by have := NE.out; omega
  have KHa := Lib.hid (afar w3b p1 h (.bool s6) (.int .u64 sh) (.int .u64 sl) _ _ n1 KH3b.out)
  have KHab := Lib.hid (afar (((w3b.setCell ⟨p1, 0, none⟩ (.bool s6)).setCell ⟨p1, 1, none⟩ (.int .u64 sh)).setCell ⟨p1, 2, none⟩ (.int .u64 sl)) p2 h (.bool d6) (.int .u64 dh) (.int .u64 dl) _ _ n2 KHa.out)
  have HS0 := Lib.hid (HSF.out w3b.drew (DR.out _ _ _ _ KH3b.out))
  have HSa := Lib.hid (HSF.out (((w3b.setCell ⟨p1, 0, none⟩ (.bool s6)).setCell ⟨p1, 1, none⟩ (.int .u64 sh)).setCell ⟨p1, 2, none⟩ (.int .u64 sl)).drew (DR.out _ _ _ _ KHa.out))
  have HSab := Lib.hid (HSF.out ((((((w3b.setCell ⟨p1, 0, none⟩ (.bool s6)).setCell ⟨p1, 1, none⟩ (.int .u64 sh)).setCell ⟨p1, 2, none⟩ (.int .u64 sl)).setCell ⟨p2, 0, none⟩ (.bool d6)).setCell ⟨p2, 1, none⟩ (.int .u64 dh)).setCell ⟨p2, 2, none⟩ (.int .u64 dl)).drew (DR.out _ _ _ _ KHab.out))
  have PBa := Lib.hid (afar w3b p1 p2 (.bool s6) (.int .u64 sh) (.int .u64 sl) _ _ (Ne.symm n3) KB3b.out)
  have PAa := Lib.hid (astore w3b p1 (.bool s6) (.int .u64 sh) (.int .u64 sl) _ _ _ KA3b.out)
  have PAab := Lib.hid (afar (((w3b.setCell ⟨p1, 0, none⟩ (.bool s6)).setCell ⟨p1, 1, none⟩ (.int .u64 sh)).setCell ⟨p1, 2, none⟩ (.int .u64 sl)) p2 p1 (.bool d6) (.int .u64 dh) (.int .u64 dl) _ _ n3 PAa.out)
  have PBab := Lib.hid (astore (((w3b.setCell ⟨p1, 0, none⟩ (.bool s6)).setCell ⟨p1, 1, none⟩ (.int .u64 sh)).setCell ⟨p1, 2, none⟩ (.int .u64 sl)) p2 (.bool d6) (.int .u64 dh) (.int .u64 dl) _ _ _ PBa.out)
  have OGab := Lib.hid ((aonly w3b p1 (.bool s6) (.int .u64 sh) (.int .u64 sl)).from B3b.out (by have := EP1.out; omega))
  have OAB := Lib.hid ((aonly (((w3b.setCell ⟨p1, 0, none⟩ (.bool s6)).setCell ⟨p1, 1, none⟩ (.int .u64 sh)).setCell ⟨p1, 2, none⟩ (.int .u64 sl)) p2 (.bool d6) (.int .u64 dh) (.int .u64 dl)).from OGab.out (by have := EP1.out; have := EP2.out; omega))
  have xa0 := PBa.out.cell 0
  have ga0 := PBa.out.frozen 0
  have xa1 := PBa.out.cell 1
  have ga1 := PBa.out.frozen 1
  have xa2 := PBa.out.cell 2
  have ga2 := PBa.out.frozen 2
  clear n1 n2 n3
  go_upto_region 4 with fail
  go_region_held3 (fun V => V.cell? ⟨h, 3, none⟩ = some (.bool s6) ∧ V.cell? ⟨h, 4, none⟩ = some (.int .u64 sh) ∧ V.cell? ⟨h, 5, none⟩ = some (.int .u64 sl) ∧ V.cell? ⟨h, 6, none⟩ = some (.bool d6) ∧ V.cell? ⟨h, 7, none⟩ = some (.int .u64 dh) ∧ V.cell? ⟨h, 8, none⟩ = some (.int .u64 dl) ∧ V.cell? ⟨h, 10, none⟩ = some (.int .i64 pr)) (first | with_reducible assumption | with_reducible exact HS0.out | with_reducible exact HSa.out | with_reducible exact HSab.out) (first | fail)
  go_wp2_with fail
  have hm := HM.out
  subst hm
  refine bodyPost_ret (results_open rfl _ _ p1 p2 #[.bool s6, .int .u64 sh, .int .u64 sl] #[.bool d6, .int .u64 dh, .int .u64 dl] rfl rfl (DR.out _ _ _ _ PAab.out) (DR.out _ _ _ _ PBab.out) rfl rfl) rfl ?_
  exact ⟨OAB.out.drew, AR, cr, rfl, (Sl_apart (Sl_apart SL3b.out (aonly _ _ _ _ _) KA3b.out) (aonly _ _ _ _ _) PBa.out).below (Below.refl _ _).drew⟩
set_option maxHeartbeats 4000000 in
set_option maxRecDepth 100000 in
theorem open6_g (A : Option Addr) (n c : Nat) (pr : Int) (s6 : Bool) (sh sl : Int) (d6 : Bool) (dh dl : Int) (r : List Int) (w : World)
    (HC : Hid (∀ V, Below w.heap.size w V → Calls Try.prog 19 #[.slice A n c] V fun o w' => Below V.heap.size V w' ∧ ∃ (cls lab ttl : Int) (AO : Option Addr) (no co : Nat) (AR : Option Addr) (cr : Nat), o = .returned (.tuple #[.agg #[.int .i64 cls, .int .i64 lab, .int .i64 ttl, .bool s6, .int .u64 sh, .int .u64 sl, .bool d6, .int .u64 dh, .int .u64 dl, .slice AO no co, .int .i64 pr], .slice AR r.length cr, .int .i64 0]) ∧ Sl w' AR r.length cr r ∧ (∀ V2, Below w'.heap.size w' V2 → Calls Try.prog 20 #[.agg #[.int .i64 cls, .int .i64 lab, .int .i64 ttl, .bool s6, .int .u64 sh, .int .u64 sl, .bool d6, .int .u64 dh, .int .u64 dl, .slice AO no co, .int .i64 pr]] V2 fun o w' => o = .returned (.int .i64 0) ∧ Below V2.heap.size V2 w'))) :
    Calls Try.prog 40 #[.slice A n c] w (OpnP ⟨r, s6, sh, sl, d6, dh, dl, pr, 0⟩ w) := by
  obtain ⟨m, hm0⟩ : ∃ m, m = r.length := ⟨_, rfl⟩
  rw [← hm0] at HC
  have HM := Lib.hid hm0
  clear hm0
  obtain ⟨w0, hw0⟩ : ∃ w0, w0 = w.alloc (.cells #[.bool false, .int .u64 0, .int .u64 0] 32) := ⟨_, rfl⟩
  obtain ⟨w1, hw1⟩ : ∃ w1, w1 = w0.alloc (.cells #[.bool false, .int .u64 0, .int .u64 0] 32) := ⟨_, rfl⟩
  obtain ⟨p1, hp1⟩ : ∃ p1, p1 = w.heap.size := ⟨_, rfl⟩
  obtain ⟨p2, hp2⟩ : ∃ p2, p2 = p1 + 1 := ⟨_, rfl⟩
  have E0 := Lib.hid hw0
  have E1 := Lib.hid hw1
  have EP1 := Lib.hid hp1
  have EP2 := Lib.hid hp2
  have B0 := Lib.hid (show Below w.heap.size w w0 from by rw [hw0]; exact (Below.refl _ _).alloc (Nat.le_refl _) _)
  have B01 := Lib.hid (show Below w0.heap.size w0 w1 from by rw [hw1]; exact (Below.refl _ _).alloc (Nat.le_refl _) _)
  have B1 := Lib.hid (B0.out.trans (B01.out.mono B0.out.size))
  have K0 := Lib.hid (show Blk w0 p1 32 #[.bool false, .int .u64 0, .int .u64 0] from by rw [hw0, hp1]; exact Blk.new w _ _)
  have KA1 := Lib.hid (K0.out.below B01.out K0.out.lt)
  have KB1 := Lib.hid (show Blk w1 p2 32 #[.bool false, .int .u64 0, .int .u64 0] from by
    have e9 : p2 = w0.heap.size := by rw [hp2, hp1, hw0]; simp
    rw [hw1, e9]; exact Blk.new w0 _ _)
  have NE := Lib.hid (show p1 < p2 from by omega)
  clear hw0 hw1 hp1 hp2
  go_enter Try.func40, Try.ntmps40
  go_upto_region 1 with fail
  rw [← E0.out, ← EP1.out, ← EP2.out, ← E1.out]
  go_wp2_with fail
  refine (HC.out _ B1.out).mono ?_
  rintro o w2 ⟨hb2, cls, lab, ttl, AO, no, co, AR, cr, rfl, hsl, hfg⟩
  obtain ⟨w3, hw3⟩ : ∃ w3, w3 = w2.alloc (.cells #[.int .i64 cls, .int .i64 lab, .int .i64 ttl, .bool s6, .int .u64 sh, .int .u64 sl, .bool d6, .int .u64 dh, .int .u64 dl, .slice AO no co, .int .i64 pr] 48) := ⟨_, rfl⟩
  obtain ⟨h, hh⟩ : ∃ h, h = w2.heap.size := ⟨_, rfl⟩
  have EH := Lib.hid hh
  have E3 := Lib.hid hw3
  have B23 := Lib.hid (show Below w2.heap.size w2 w3 from by rw [hw3]; exact (Below.refl _ _).alloc (Nat.le_refl _) _)
  have B13 := Lib.hid (hb2.trans (B23.out.mono hb2.size))
  have KH3 := Lib.hid (show Blk w3 h 48 #[.int .i64 cls, .int .i64 lab, .int .i64 ttl, .bool s6, .int .u64 sh, .int .u64 sl, .bool d6, .int .u64 dh, .int .u64 dl, .slice AO no co, .int .i64 pr] from by rw [hw3, hh]; exact Blk.new w2 _ _)
  have KA3 := Lib.hid (KA1.out.below B13.out KA1.out.lt)
  have KB3 := Lib.hid (KB1.out.below B13.out KB1.out.lt)
  have B3 := Lib.hid (B1.out.trans (B13.out.mono B1.out.size))
  have SL3 := Lib.hid (hsl.below B23.out)
  have QH := Lib.hid (show p2 < h from by have := KB1.out.lt; have := hb2.size; omega)
  have HFG := Lib.hid hfg
  clear hw3 hb2 hh hsl hfg
  go_upto_region 2 with fail
  rw [← E3.out, ← EH.out]
  have k0 := KH3.out.cell 0
  have k1 := KH3.out.cell 1
  have k2 := KH3.out.cell 2
  have k3 := KH3.out.cell 3
  have k4 := KH3.out.cell 4
  have k5 := KH3.out.cell 5
  have k6 := KH3.out.cell 6
  have k7 := KH3.out.cell 7
  have k8 := KH3.out.cell 8
  have k9 := KH3.out.cell 9
  have k10 := KH3.out.cell 10
  go_wp2_with fail
  refine (HFG.out w3 B23.out).mono ?_
  rintro o w3b ⟨rfl, hb⟩
  have KH3b := Lib.hid (KH3.out.below hb KH3.out.lt)
  have KA3b := Lib.hid (KA3.out.below hb KA3.out.lt)
  have KB3b := Lib.hid (KB3.out.below hb KB3.out.lt)
  have B3b := Lib.hid (B3.out.trans (hb.mono B3.out.size))
  have SL3b := Lib.hid (SL3.out.below hb)
  clear hb k0 k1 k2 k3 k4 k5 k6 k7 k8 k9 k10
  have k3 := KH3b.out.cell 3
  have k4 := KH3b.out.cell 4
  have k5 := KH3b.out.cell 5
  have k6 := KH3b.out.cell 6
  have k7 := KH3b.out.cell 7
  have k8 := KH3b.out.cell 8
  have k10 := KH3b.out.cell 10
  have y0 := KA3b.out.cell 0
  have f0 := KA3b.out.frozen 0
  have x0 := KB3b.out.cell 0
  have g0 := KB3b.out.frozen 0
  have y1 := KA3b.out.cell 1
  have f1 := KA3b.out.frozen 1
  have x1 := KB3b.out.cell 1
  have g1 := KB3b.out.frozen 1
  have y2 := KA3b.out.cell 2
  have f2 := KA3b.out.frozen 2
  have x2 := KB3b.out.cell 2
  have g2 := KB3b.out.frozen 2
  have HSF := Lib.hid (show ∀ V, Blk V h 48 #[.int .i64 cls, .int .i64 lab, .int .i64 ttl, .bool s6, .int .u64 sh, .int .u64 sl, .bool d6, .int .u64 dh, .int .u64 dl, .slice AO no co, .int .i64 pr] → (V.cell? ⟨h, 3, none⟩ = some (.bool s6) ∧ V.cell? ⟨h, 4, none⟩ = some (.int .u64 sh) ∧ V.cell? ⟨h, 5, none⟩ = some (.int .u64 sl) ∧ V.cell? ⟨h, 6, none⟩ = some (.bool d6) ∧ V.cell? ⟨h, 7, none⟩ = some (.int .u64 dh) ∧ V.cell? ⟨h, 8, none⟩ = some (.int .u64 dl) ∧ V.cell? ⟨h, 10, none⟩ = some (.int .i64 pr)) from fun V q => ⟨q.cell 3, q.cell 4, q.cell 5, q.cell 6, q.cell 7, q.cell 8, q.cell 10⟩)
  have DR := Lib.hid (show ∀ (V : World) (g : Nat) (T : TypeId) (cs : Array Value), Blk V g T cs → Blk V.drew g T cs from fun V g T cs q => q.below (Below.refl _ _).drew q.lt)
  have n1 : h ≠ p1 := by have := QH.out; have := NE.out; omega
  have n2 : h ≠ p2 := by have := QH.out; omega
  have n3 : p1 ≠ p2 := by have := NE.out; omega
  have KHa := Lib.hid (afar w3b p1 h (.bool s6) (.int .u64 sh) (.int .u64 sl) _ _ n1 KH3b.out)
  have KHab := Lib.hid (afar (((w3b.setCell ⟨p1, 0, none⟩ (.bool s6)).setCell ⟨p1, 1, none⟩ (.int .u64 sh)).setCell ⟨p1, 2, none⟩ (.int .u64 sl)) p2 h (.bool d6) (.int .u64 dh) (.int .u64 dl) _ _ n2 KHa.out)
  have HS0 := Lib.hid (HSF.out w3b.drew (DR.out _ _ _ _ KH3b.out))
  have HSa := Lib.hid (HSF.out (((w3b.setCell ⟨p1, 0, none⟩ (.bool s6)).setCell ⟨p1, 1, none⟩ (.int .u64 sh)).setCell ⟨p1, 2, none⟩ (.int .u64 sl)).drew (DR.out _ _ _ _ KHa.out))
  have HSab := Lib.hid (HSF.out ((((((w3b.setCell ⟨p1, 0, none⟩ (.bool s6)).setCell ⟨p1, 1, none⟩ (.int .u64 sh)).setCell ⟨p1, 2, none⟩ (.int .u64 sl)).setCell ⟨p2, 0, none⟩ (.bool d6)).setCell ⟨p2, 1, none⟩ (.int .u64 dh)).setCell ⟨p2, 2, none⟩ (.int .u64 dl)).drew (DR.out _ _ _ _ KHab.out))
  have PBa := Lib.hid (afar w3b p1 p2 (.bool s6) (.int .u64 sh) (.int .u64 sl) _ _ (Ne.symm n3) KB3b.out)
  have PAa := Lib.hid (astore w3b p1 (.bool s6) (.int .u64 sh) (.int .u64 sl) _ _ _ KA3b.out)
  have PAab := Lib.hid (afar (((w3b.setCell ⟨p1, 0, none⟩ (.bool s6)).setCell ⟨p1, 1, none⟩ (.int .u64 sh)).setCell ⟨p1, 2, none⟩ (.int .u64 sl)) p2 p1 (.bool d6) (.int .u64 dh) (.int .u64 dl) _ _ n3 PAa.out)
  have PBab := Lib.hid (astore (((w3b.setCell ⟨p1, 0, none⟩ (.bool s6)).setCell ⟨p1, 1, none⟩ (.int .u64 sh)).setCell ⟨p1, 2, none⟩ (.int .u64 sl)) p2 (.bool d6) (.int .u64 dh) (.int .u64 dl) _ _ _ PBa.out)
  have OGab := Lib.hid ((aonly w3b p1 (.bool s6) (.int .u64 sh) (.int .u64 sl)).from B3b.out (by have := EP1.out; omega))
  have OAB := Lib.hid ((aonly (((w3b.setCell ⟨p1, 0, none⟩ (.bool s6)).setCell ⟨p1, 1, none⟩ (.int .u64 sh)).setCell ⟨p1, 2, none⟩ (.int .u64 sl)) p2 (.bool d6) (.int .u64 dh) (.int .u64 dl)).from OGab.out (by have := EP1.out; have := EP2.out; omega))
  have xa0 := PBa.out.cell 0
  have ga0 := PBa.out.frozen 0
  have xa1 := PBa.out.cell 1
  have ga1 := PBa.out.frozen 1
  have xa2 := PBa.out.cell 2
  have ga2 := PBa.out.frozen 2
  clear n1 n2 n3
  go_upto_region 4 with fail
  go_region_held3 (fun V => V.cell? ⟨h, 3, none⟩ = some (.bool s6) ∧ V.cell? ⟨h, 4, none⟩ = some (.int .u64 sh) ∧ V.cell? ⟨h, 5, none⟩ = some (.int .u64 sl) ∧ V.cell? ⟨h, 6, none⟩ = some (.bool d6) ∧ V.cell? ⟨h, 7, none⟩ = some (.int .u64 dh) ∧ V.cell? ⟨h, 8, none⟩ = some (.int .u64 dl) ∧ V.cell? ⟨h, 10, none⟩ = some (.int .i64 pr)) (first | with_reducible assumption | with_reducible exact HS0.out | with_reducible exact HSa.out | with_reducible exact HSab.out) (first | fail)
  go_wp2_with fail
  have hm := HM.out
  subst hm
  refine bodyPost_ret (results_open rfl _ _ p1 p2 #[.bool s6, .int .u64 sh, .int .u64 sl] #[.bool d6, .int .u64 dh, .int .u64 dl] rfl rfl (DR.out _ _ _ _ PAab.out) (DR.out _ _ _ _ PBab.out) rfl rfl) rfl ?_
  exact ⟨OAB.out.drew, AR, cr, rfl, (Sl_apart (Sl_apart SL3b.out (aonly _ _ _ _ _) KA3b.out) (aonly _ _ _ _ _) PBa.out).below (Below.refl _ _).drew⟩
end Go.Proofs.Ytodckfgfbcnkoaa.tunB
