/- 1 texts in one. -/
import Derived.Deep.RegionHeld3
import Derived.Deep.WholeRow
import Derived.Deep.DeepCutAuto
import Derived.Test.YtndekicblbpkjaaPa21
/- Layer 13: the law's outer. -/
namespace Go.Proofs.Ytndekicblbpkjaa.pktI
open Go.ChangeShapes Go.WideShapes Go.ChangeAt Go.RowKit
open Go.Proofs.Ytndekicblbpkjaa.base Go.Proofs.Ytndekicblbpkjaa.octA Go.Proofs.Ytndekicblbpkjaa.octB Go.Proofs.Ytndekicblbpkjaa.octC Go.Proofs.Ytndekicblbpkjaa.octF Go.Proofs.Ytndekicblbpkjaa.octK Go.Proofs.Ytndekicblbpkjaa.net Go.Proofs.Ytndekicblbpkjaa.rdrA Go.Proofs.Ytndekicblbpkjaa.rdrG Go.Proofs.Ytndekicblbpkjaa.sumA Go.Proofs.Ytndekicblbpkjaa.sumB Go.Proofs.Ytndekicblbpkjaa.sixW Go.Proofs.Ytndekicblbpkjaa.sixM Go.Proofs.Ytndekicblbpkjaa.pktA Go.Proofs.Ytndekicblbpkjaa.pktB Go.Proofs.Ytndekicblbpkjaa.pktC Go.Proofs.Ytndekicblbpkjaa.pktD Go.Proofs.Ytndekicblbpkjaa.icmpH Go.Proofs.Ytndekicblbpkjaa.pktE Go.Proofs.Ytndekicblbpkjaa.sixA Go.Proofs.Ytndekicblbpkjaa.sixE Go.Proofs.Ytndekicblbpkjaa.sixF Go.Proofs.Ytndekicblbpkjaa.sixO Go.Proofs.Ytndekicblbpkjaa.pktF
set_option linter.unusedVariables false

theorem results_o4 {fn : Func} {p a b e : Tmp} (h : fn.results = #[.cell p 58, .tmp a, .tmp b, .tmp e]) (tmps : Array Value) (w : World) (g : Nat) (cs : Array Value) (hp : tmps.getD p undef = .pointer (some ⟨g, 0, none⟩)) (hg : Blk w g 58 cs) (hs : cs.size = 23) :
    (results fn tmps).run Try.prog w = .ok (.tuple #[.agg cs, tmps.getD a undef, tmps.getD b undef, tmps.getD e undef]) w := by
  have e : (results fn tmps).run Try.prog w = ((asAddr (tmps.getD p undef)).run Try.prog w).andThen fun a_ w1 => ((loadVar 58 a_).run Try.prog w1).andThen fun y w2 => .ok (.tuple #[y, tmps.getD a undef, tmps.getD b undef, tmps.getD e undef]) w2 := by
    simp only [results, h]
    simp [Sem.run_bind, Result.andThen]
  rw [e, hp]
  simp only [asAddr, Sem.run_pure, Result.andThen_ok]
  rw [run_loadVar_row w g 58 58 cs (0, 0) _ hg Try.underlying58 rfl (by rw [hs]; kernel_rfl)]
  rfl
/-- Bytes lie in no block of which no cell is a byte: what is stored there leaves them. -/
theorem _root_.Go.Proofs.Ytndekicblbpkjaa.pktA.Sl.keep {w w' : World} {A : Option Addr} {n c g : Nat} {l : List Int} {t : TypeId} {cs : Array Value} (h : Sl w A n c l) (hk : Blk w g t cs) (hc : ∀ (i : Nat) (x : Int), cs[i]? ≠ some (.int .u8 x)) (ho : OnlyG g w w') : Sl w' A n c l := by
  cases l with
  | nil => exact ⟨h.len, .inl rfl, h.nc, h.mx, h.nil, h.u8⟩
  | cons x l =>
    refine h.set_ (fun ad hA e => ?_) ho
    rcases h.row with h0 | ⟨b, off, hB, hb, hx⟩
    · cases h0
    · rw [hA] at hB
      injection hB with hB
      subst hB
      have h1 := hx 0 (.int .u8 x) rfl
      have e : b = g := e
      subst e
      rw [hk.cell] at h1
      exact hc _ _ h1
theorem zero_no8 (i : Nat) (x : Int) : (#[.bool false, .int .i64 0, .bool false, .int .u64 0, .int .u64 0, .bool false, .int .u64 0, .int .u64 0, .int .i64 0, .int .i64 0, .int .i64 0, .int .i64 0, .bool false, .int .i64 0, .bool false, .int .u64 0, .int .u64 0, .bool false, .int .u64 0, .int .u64 0, .int .i64 0, .int .i64 0, .int .i64 0] : Array Value)[i]? ≠ some (.int .u8 x) := by
  intro h
  have h2 := List.mem_of_getElem? (by simpa using h)
  simp at h2
set_option maxHeartbeats 8000000 in
set_option maxRecDepth 100000 in
theorem lo_short (A : Option Addr) (c : Nat) (w : World) :
    Calls Try.prog 58 #[.slice A 0 c] w fun o w' => o = .returned (.tuple #[.agg #[.bool false, .int .i64 0, .bool false, .int .u64 0, .int .u64 0, .bool false, .int .u64 0, .int .u64 0, .int .i64 0, .int .i64 0, .int .i64 0, .int .i64 0, .bool false, .int .i64 0, .bool false, .int .u64 0, .int .u64 0, .bool false, .int .u64 0, .int .u64 0, .int .i64 0, .int .i64 0, .int .i64 0], .slice none 0 0, .slice none 0 0, .int .i64 2]) ∧ Below w.heap.size w w' := by
  obtain ⟨Z, hZ⟩ : ∃ Z : Array Value, Z = #[.bool false, .int .i64 0, .bool false, .int .u64 0, .int .u64 0, .bool false, .int .u64 0, .int .u64 0, .int .i64 0, .int .i64 0, .int .i64 0, .int .i64 0, .bool false, .int .i64 0, .bool false, .int .u64 0, .int .u64 0, .bool false, .int .u64 0, .int .u64 0, .int .i64 0, .int .i64 0, .int .i64 0] := ⟨_, rfl⟩
  have hz : ∀ w : World, (zeroValue 58).run Try.prog w = .ok (.agg Z) w := by rw [hZ]; exact (zero_of_info pktF.zeroPkI).1
  have zs : Z.size = 23 := by rw [hZ]; rfl
  have zs2 : ¬ Z = #[] := by intro h; rw [h] at zs; cases zs
  have ZS := Lib.hid zs
  have HZ := Lib.hid hZ
  have ZO := Lib.hid (show Z.all (·.oneCell') = true from by rw [hZ]; kernel_rfl)
  clear hZ
  obtain ⟨w1, hw1⟩ : ∃ w1, w1 = w.alloc (.cells Z 58) := ⟨_, rfl⟩
  have E1 := Lib.hid hw1
  have B1 := Lib.hid (show Below w.heap.size w w1 from by rw [hw1]; exact (Below.refl _ _).alloc (Nat.le_refl _) _)
  obtain ⟨q, hq⟩ : ∃ q, q = w.heap.size := ⟨_, rfl⟩
  have EQ := Lib.hid hq
  have KQ1 := Lib.hid (show Blk w1 q 58 Z from by rw [hw1, hq]; exact Blk.new w _ _)
  have HI := Lib.hid pk_size
  have HIZ := Lib.hid (show (Try.prog.info? 58).map (·.size) = some Z.size from by rw [zs]; exact pk_size)
  clear hw1 hq
  go_enter Try.func58, Try.ntmps58
  go_upto_region 1 with fail
  rw [← E1.out, ← EQ.out]
  go_wp2_with (refine wpList_store_row rfl 58 _ _ rfl q Z rfl rfl 58 Z KQ1.out HIZ.out rfl ZO.out ?_)
  refine bodyPost_ret (results_o4 rfl _ _ q Z rfl (blkRow KQ1.out _) ZS.out) rfl ?_
  exact ⟨by rw [HZ.out]; rfl, (onlyRow _).from B1.out (by have := EQ.out; omega)⟩
set_option maxHeartbeats 8000000 in
set_option maxRecDepth 100000 in
theorem lo_version (b off n c : Nat) (l : List Int) (w : World) (hl : l.length = n) (hn : 0 < n) (hn2 : n ≤ 1000) (hb : b < w.heap.size) (hs : Lies w b off l) (h4 : l.getD 0 0 / 16 ≠ 4) (h6 : l.getD 0 0 / 16 ≠ 6) (hu : U8 l) :
    Calls Try.prog 58 #[.slice (some ⟨b, off, none⟩) n c] w fun o w' => o = .returned (.tuple #[.agg #[.bool false, .int .i64 0, .bool false, .int .u64 0, .int .u64 0, .bool false, .int .u64 0, .int .u64 0, .int .i64 0, .int .i64 0, .int .i64 0, .int .i64 0, .bool false, .int .i64 0, .bool false, .int .u64 0, .int .u64 0, .bool false, .int .u64 0, .int .u64 0, .int .i64 0, .int .i64 0, .int .i64 0], .slice none 0 0, .slice none 0 0, .int .i64 10]) ∧ Below w.heap.size w w' := by
  obtain ⟨Z, hZ⟩ : ∃ Z : Array Value, Z = #[.bool false, .int .i64 0, .bool false, .int .u64 0, .int .u64 0, .bool false, .int .u64 0, .int .u64 0, .int .i64 0, .int .i64 0, .int .i64 0, .int .i64 0, .bool false, .int .i64 0, .bool false, .int .u64 0, .int .u64 0, .bool false, .int .u64 0, .int .u64 0, .int .i64 0, .int .i64 0, .int .i64 0] := ⟨_, rfl⟩
  have hz : ∀ w : World, (zeroValue 58).run Try.prog w = .ok (.agg Z) w := by rw [hZ]; exact (zero_of_info pktF.zeroPkI).1
  have zs : Z.size = 23 := by rw [hZ]; rfl
  have zs2 : ¬ Z = #[] := by intro h; rw [h] at zs; cases zs
  have ZS := Lib.hid zs
  have HZ := Lib.hid hZ
  have ZO := Lib.hid (show Z.all (·.oneCell') = true from by rw [hZ]; kernel_rfl)
  clear hZ
  obtain ⟨w1, hw1⟩ : ∃ w1, w1 = w.alloc (.cells Z 58) := ⟨_, rfl⟩
  have E1 := Lib.hid hw1
  have B1 := Lib.hid (show Below w.heap.size w w1 from by rw [hw1]; exact (Below.refl _ _).alloc (Nat.le_refl _) _)
  obtain ⟨q, hq⟩ : ∃ q, q = w.heap.size := ⟨_, rfl⟩
  have EQ := Lib.hid hq
  have KQ1 := Lib.hid (show Blk w1 q 58 Z from by rw [hw1, hq]; exact Blk.new w _ _)
  have HI := Lib.hid pk_size
  have HIZ := Lib.hid (show (Try.prog.info? 58).map (·.size) = some Z.size from by rw [zs]; exact pk_size)
  clear hw1 hq
  have u0 := hu.get 0
  have y0 : w1.cell? ⟨b, off, none⟩ = some (.int .u8 (l.getD 0 0)) := (hs.below B1.out hb) 0 (by omega)
  have c0 : ((n : Int) == 0) = false := by simp; omega
  have c0n : (n == 0) = false := by simp; omega
  have j1 : (0 : Int) < n := by omega
  have t4 : (l.getD 0 0 / 16 == 4) = false := by simpa using h4
  have t6 : (l.getD 0 0 / 16 != 6) = true := by simpa using h6
  obtain ⟨x, hx⟩ : ∃ x, x = l.getD 0 0 := ⟨_, rfl⟩
  rw [← hx] at y0 u0 t4 t6
  clear h4 h6 hu hs hl hx
  go_enter Try.func58, Try.ntmps58
  go_upto_region 1 with fail
  rw [← E1.out, ← EQ.out]
  go_wp2_with (refine wpList_store_row rfl 58 _ _ rfl q Z rfl rfl 58 Z KQ1.out HIZ.out rfl ZO.out ?_)
  refine bodyPost_ret (results_o4 rfl _ _ q Z rfl (blkRow KQ1.out _) ZS.out) rfl ?_
  exact ⟨by rw [HZ.out]; rfl, (onlyRow _).from B1.out (by have := EQ.out; omega)⟩
set_option maxHeartbeats 8000000 in
set_option maxRecDepth 100000 in
theorem lo6_any (b off n c : Nat) (l : List Int) (w : World) (hl : l.length = n) (hn : 0 < n) (hn2 : n ≤ 1000) (hb : b < w.heap.size) (hs : Lies w b off l) (h6 : l.getD 0 0 / 16 = 6) (hu : U8 l)
    (ttl : Int) (s6 : Bool) (sh sl : Int) (d6 : Bool) (dh dl pr : Int) (xl : Nat) (r : List Int) (hr : r.length ≤ 1000) (hxl : xl ≤ 100000) (fr : Int) (mf : Bool) (e e2 : Int) (he2 : e2 = if (e == 0 && (decide (0 < fr) || mf)) = true then 21 else e) (sz : Int) (hsz : sz = ((40 + xl : Nat) : Int) + (r.length : Int)) (b1 : 0 ≤ sh ∧ sh < 18446744073709551616) (b2 : 0 ≤ sl ∧ sl < 18446744073709551616) (b3 : 0 ≤ dh ∧ dh < 18446744073709551616) (b4 : 0 ≤ dl ∧ dl < 18446744073709551616) (b5 : 0 ≤ pr ∧ pr ≤ 255)
    (HC : Hid (∀ V, Below w.heap.size w V → Calls Try.prog 11 #[.slice (some ⟨b, off, none⟩) n c] V fun o w' => Below V.heap.size V w' ∧ ∃ (AX : Option Addr) (nx cx : Nat) (cls lab : Int) (AR : Option Addr) (cr : Nat), o = .returned (.tuple #[.agg #[.int .i64 cls, .int .i64 lab, .int .i64 ttl, .bool s6, .int .u64 sh, .int .u64 sl, .bool d6, .int .u64 dh, .int .u64 dl, .slice AX nx cx, .int .i64 pr], .slice AR r.length cr, .int .i64 e]) ∧ Sl w' AR r.length cr r ∧ (e = 0 → (∀ V2, Below w'.heap.size w' V2 → Calls Try.prog 25 #[.agg #[.int .i64 cls, .int .i64 lab, .int .i64 ttl, .bool s6, .int .u64 sh, .int .u64 sl, .bool d6, .int .u64 dh, .int .u64 dl, .slice AX nx cx, .int .i64 pr]] V2 fun o w' => o = .returned (.int .i64 fr) ∧ Below V2.heap.size V2 w') ∧ (∀ V2, Below w'.heap.size w' V2 → Calls Try.prog 82 #[.agg #[.int .i64 cls, .int .i64 lab, .int .i64 ttl, .bool s6, .int .u64 sh, .int .u64 sl, .bool d6, .int .u64 dh, .int .u64 dl, .slice AX nx cx, .int .i64 pr]] V2 fun o w' => o = .returned (.bool mf) ∧ Below V2.heap.size V2 w')) ∧ (∀ V2, Below w'.heap.size w' V2 → Calls Try.prog 20 #[.agg #[.int .i64 cls, .int .i64 lab, .int .i64 ttl, .bool s6, .int .u64 sh, .int .u64 sl, .bool d6, .int .u64 dh, .int .u64 dl, .slice AX nx cx, .int .i64 pr]] V2 fun o w' => o = .returned (.int .i64 (40 + xl : Nat)) ∧ Below V2.heap.size V2 w'))) :
    Calls Try.prog 58 #[.slice (some ⟨b, off, none⟩) n c] w fun o w' => Below w.heap.size w w' ∧ ∃ (AR : Option Addr) (cr : Nat) (AP : Option Addr) (np cp : Nat), o = .returned (.tuple #[.agg #[.bool true, .int .i64 pr, .bool s6, .int .u64 sh, .int .u64 sl, .bool d6, .int .u64 dh, .int .u64 dl, .int .i64 0, .int .i64 0, .int .i64 ttl, .int .i64 0, .bool false, .int .i64 0, .bool false, .int .u64 0, .int .u64 0, .bool false, .int .u64 0, .int .u64 0, .int .i64 0, .int .i64 0, .int .i64 sz], .slice AR r.length cr, .slice AP np cp, .int .i64 e2]) ∧ Sl w' AR r.length cr r ∧ Sl w' AP np cp (psd6 sh sl dh dl pr r.length) := by
  obtain ⟨m, hm0⟩ : ∃ m, m = r.length := ⟨_, rfl⟩
  rw [← hm0] at HC hr hsz ⊢
  clear hm0
  obtain ⟨Z, hZ⟩ : ∃ Z : Array Value, Z = #[.bool false, .int .i64 0, .bool false, .int .u64 0, .int .u64 0, .bool false, .int .u64 0, .int .u64 0, .int .i64 0, .int .i64 0, .int .i64 0, .int .i64 0, .bool false, .int .i64 0, .bool false, .int .u64 0, .int .u64 0, .bool false, .int .u64 0, .int .u64 0, .int .i64 0, .int .i64 0, .int .i64 0] := ⟨_, rfl⟩
  have hz : ∀ w : World, (zeroValue 58).run Try.prog w = .ok (.agg Z) w := by rw [hZ]; exact (zero_of_info pktF.zeroPkI).1
  have zs : Z.size = 23 := by rw [hZ]; rfl
  have zs2 : ¬ Z = #[] := by intro h; rw [h] at zs; cases zs
  have ZS := Lib.hid zs
  have HZ := Lib.hid hZ
  have ZO := Lib.hid (show Z.all (·.oneCell') = true from by rw [hZ]; kernel_rfl)
  clear hZ
  obtain ⟨w1, hw1⟩ : ∃ w1, w1 = w.alloc (.cells Z 58) := ⟨_, rfl⟩
  have E1 := Lib.hid hw1
  have B1 := Lib.hid (show Below w.heap.size w w1 from by rw [hw1]; exact (Below.refl _ _).alloc (Nat.le_refl _) _)
  obtain ⟨q, hq⟩ : ∃ q, q = w.heap.size := ⟨_, rfl⟩
  have EQ := Lib.hid hq
  have KQ1 := Lib.hid (show Blk w1 q 58 Z from by rw [hw1, hq]; exact Blk.new w _ _)
  have HI := Lib.hid pk_size
  have HIZ := Lib.hid (show (Try.prog.info? 58).map (·.size) = some Z.size from by rw [zs]; exact pk_size)
  clear hw1 hq
  have u0 := hu.get 0
  have y0 : w1.cell? ⟨b, off, none⟩ = some (.int .u8 (l.getD 0 0)) := (hs.below B1.out hb) 0 (by omega)
  have c0 : ((n : Int) == 0) = false := by simp; omega
  have c0n : (n == 0) = false := by simp; omega
  have j1 : (0 : Int) < n := by omega
  have t4 : (l.getD 0 0 / 16 == 4) = false := beq_eq_false_iff_ne.mpr (by omega)
  have t6 : (l.getD 0 0 / 16 != 6) = false := by simpa using h6
  obtain ⟨x, hx⟩ : ∃ x, x = l.getD 0 0 := ⟨_, rfl⟩
  rw [← hx] at y0 u0 t4 t6
  clear h6 hu hs hl hx
  go_enter Try.func58, Try.ntmps58
  go_upto_region 1 with fail
  rw [← E1.out, ← EQ.out]
  go_wp2_with fail
  refine (HC.out _ B1.out).mono ?_
  rintro o w2 ⟨hb2, AX, nx, cx, cls, lab, AR, cr, rfl, hsl, hfm, hle⟩
  obtain ⟨w3, hw3⟩ : ∃ w3, w3 = w2.alloc (.cells #[.int .i64 cls, .int .i64 lab, .int .i64 ttl, .bool s6, .int .u64 sh, .int .u64 sl, .bool d6, .int .u64 dh, .int .u64 dl, .slice AX nx cx, .int .i64 pr] 29) := ⟨_, rfl⟩
  obtain ⟨h, hh⟩ : ∃ h, h = w2.heap.size := ⟨_, rfl⟩
  have EH := Lib.hid hh
  have E3 := Lib.hid hw3
  have B23 := Lib.hid (show Below w2.heap.size w2 w3 from by rw [hw3]; exact (Below.refl _ _).alloc (Nat.le_refl _) _)
  have B13 := Lib.hid (hb2.trans (B23.out.mono hb2.size))
  have KH3 := Lib.hid (show Blk w3 h 29 #[.int .i64 cls, .int .i64 lab, .int .i64 ttl, .bool s6, .int .u64 sh, .int .u64 sl, .bool d6, .int .u64 dh, .int .u64 dl, .slice AX nx cx, .int .i64 pr] from by rw [hw3, hh]; exact Blk.new w2 _ _)
  have KQ3 := Lib.hid (KQ1.out.below B13.out KQ1.out.lt)
  have B3 := Lib.hid (B1.out.trans (B13.out.mono B1.out.size))
  have SL3 := Lib.hid (hsl.below B23.out)
  have QH := Lib.hid (show q < h from by have := KQ1.out.lt; have := hb2.size; omega)
  have HFM := Lib.hid hfm
  have HLE := Lib.hid hle
  clear hw3 hb2 hh hsl hfm hle
  go_upto_region 11 with fail
  rw [← E3.out, ← EH.out]
  have HE2 := Lib.hid he2
  clear he2
  go_cut [86] (fun v wx => v = .bool (e == 0 && (decide (0 < fr) || mf)) ∧ Hid (Blk wx h 29 #[.int .i64 cls, .int .i64 lab, .int .i64 ttl, .bool s6, .int .u64 sh, .int .u64 sl, .bool d6, .int .u64 dh, .int .u64 dl, .slice AX nx cx, .int .i64 pr] ∧ Blk wx q 58 Z ∧ Below w.heap.size w wx ∧ Sl wx AR m cr r ∧ Below w2.heap.size w2 wx))
  case first =>
    by_cases he : e = 0
    · have te : (e == 0) = true := by simp [he]
      obtain ⟨hfg, hmo⟩ := HFM.out he
      clear he
      by_cases hf : 0 < fr
      · have tg : decide (0 < fr) = true := decide_eq_true hf
        have k0 := KH3.out.cell 0
        have k1 := KH3.out.cell 1
        have k2 := KH3.out.cell 2
        have k3 := KH3.out.cell 3
        have k4 := KH3.out.cell 4
        have k5 := KH3.out.cell 5
        have k6 := KH3.out.cell 6
        have k7 := KH3.out.cell 7
        have k8 := KH3.out.cell 8
        have k9 := KH3.out.cell 9
        have k10 := KH3.out.cell 10
        go_wp2_with fail
        refine (hfg w3 B23.out).mono ?_
        rintro o w3b ⟨rfl, hb⟩
        go_wp2_with fail
        go_meet
        exact ⟨by simp [te, tg], Lib.hid ⟨KH3.out.below hb KH3.out.lt, KQ3.out.below hb KQ3.out.lt, B3.out.trans (hb.mono B3.out.size), SL3.out.below hb, B23.out.trans (hb.mono B23.out.size)⟩⟩
      · have tg : decide (0 < fr) = false := decide_eq_false hf
        have k0 := KH3.out.cell 0
        have k1 := KH3.out.cell 1
        have k2 := KH3.out.cell 2
        have k3 := KH3.out.cell 3
        have k4 := KH3.out.cell 4
        have k5 := KH3.out.cell 5
        have k6 := KH3.out.cell 6
        have k7 := KH3.out.cell 7
        have k8 := KH3.out.cell 8
        have k9 := KH3.out.cell 9
        have k10 := KH3.out.cell 10
        go_wp2_with fail
        refine (hfg w3 B23.out).mono ?_
        rintro o w3b ⟨rfl, hb⟩
        have B24 := Lib.hid (B23.out.trans (hb.mono B23.out.size))
        have KH3b := Lib.hid (KH3.out.below hb KH3.out.lt)
        have KQ3b := Lib.hid (KQ3.out.below hb KQ3.out.lt)
        have B3b := Lib.hid (B3.out.trans (hb.mono B3.out.size))
        have SL3b := Lib.hid (SL3.out.below hb)
        clear hb k0 k1 k2 k3 k4 k5 k6 k7 k8 k9 k10
        have k0 := KH3b.out.cell 0
        have k1 := KH3b.out.cell 1
        have k2 := KH3b.out.cell 2
        have k3 := KH3b.out.cell 3
        have k4 := KH3b.out.cell 4
        have k5 := KH3b.out.cell 5
        have k6 := KH3b.out.cell 6
        have k7 := KH3b.out.cell 7
        have k8 := KH3b.out.cell 8
        have k9 := KH3b.out.cell 9
        have k10 := KH3b.out.cell 10
        go_wp2_with fail
        refine (hmo w3b B24.out).mono ?_
        rintro o w3c ⟨rfl, hb⟩
        go_wp2_with fail
        go_meet
        exact ⟨by simp [te, tg], Lib.hid ⟨KH3b.out.below hb KH3b.out.lt, KQ3b.out.below hb KQ3b.out.lt, B3b.out.trans (hb.mono B3b.out.size), SL3b.out.below hb, B24.out.trans (hb.mono B24.out.size)⟩⟩
    · have te : (e == 0) = false := by simp [he]
      clear he
      go_wp2_with fail
      go_meet
      exact ⟨by simp [te], Lib.hid ⟨KH3.out, KQ3.out, B3.out, SL3.out, B23.out⟩⟩
  case rest =>
  obtain ⟨rfl, hcut⟩ := hcut
  have HW := hcut
  clear hcut KH3 KQ3 B3 SL3 B23
  rename World => wz
  go_upto_if 86 with fail
  go_cut [11] (fun v wx => v = .int .i64 e2 ∧ wx = wz)
  case first =>
    have he2 := HE2.out
    cases hg : (e == 0 && (decide (0 < fr) || mf)) with
    | true =>
      rw [hg, if_pos rfl] at he2
      go_wp2_with fail
      go_meet
      exact ⟨by rw [he2], rfl⟩
    | false =>
      rw [hg, if_neg (by decide)] at he2
      go_wp2_with fail
      go_meet
      exact ⟨by rw [he2], rfl⟩
  case rest =>
  obtain ⟨rfl, rfl⟩ := hcut
  obtain ⟨KHc, KQc, Bc, SLc, B25⟩ := HW.out
  have KHc := Lib.hid KHc
  have KQc := Lib.hid KQc
  have Bc := Lib.hid Bc
  have SLc := Lib.hid SLc
  have B25 := Lib.hid B25
  have HSF := Lib.hid (show ∀ V, Below wc.heap.size wc V → (V.cell? ⟨h, 0, none⟩ = some (.int .i64 cls) ∧ V.cell? ⟨h, 1, none⟩ = some (.int .i64 lab) ∧ V.cell? ⟨h, 2, none⟩ = some (.int .i64 ttl) ∧ V.cell? ⟨h, 3, none⟩ = some (.bool s6) ∧ V.cell? ⟨h, 4, none⟩ = some (.int .u64 sh) ∧ V.cell? ⟨h, 5, none⟩ = some (.int .u64 sl) ∧ V.cell? ⟨h, 6, none⟩ = some (.bool d6) ∧ V.cell? ⟨h, 7, none⟩ = some (.int .u64 dh) ∧ V.cell? ⟨h, 8, none⟩ = some (.int .u64 dl) ∧ V.cell? ⟨h, 9, none⟩ = some (.slice AX nx cx) ∧ V.cell? ⟨h, 10, none⟩ = some (.int .i64 pr)) from fun V hV => ⟨(KHc.out.below hV KHc.out.lt).cell 0, (KHc.out.below hV KHc.out.lt).cell 1, (KHc.out.below hV KHc.out.lt).cell 2, (KHc.out.below hV KHc.out.lt).cell 3, (KHc.out.below hV KHc.out.lt).cell 4, (KHc.out.below hV KHc.out.lt).cell 5, (KHc.out.below hV KHc.out.lt).cell 6, (KHc.out.below hV KHc.out.lt).cell 7, (KHc.out.below hV KHc.out.lt).cell 8, (KHc.out.below hV KHc.out.lt).cell 9, (KHc.out.below hV KHc.out.lt).cell 10⟩)
  have HLN := Lib.hid (show ∀ V, Below wc.heap.size wc V → Calls Try.prog 20 #[.agg #[.int .i64 cls, .int .i64 lab, .int .i64 ttl, .bool s6, .int .u64 sh, .int .u64 sl, .bool d6, .int .u64 dh, .int .u64 dl, .slice AX nx cx, .int .i64 pr]] V fun o w' => o = .returned (.int .i64 ((40 + xl : Nat))) ∧ Below V.heap.size V w' from fun V hV => HLE.out V (B25.out.trans (hV.mono B25.out.size)))
  have wsz : IntKind.i64.wrap (40 + (xl : Int) + (m : Int)) = sz := by rw [IntWalk.i64_in _ (by omega), hsz]; omega
  have HPS := Lib.hid (show ∀ V, Calls Try.prog 84 #[.agg #[.bool s6, .int .u64 sh, .int .u64 sl], .agg #[.bool d6, .int .u64 dh, .int .u64 dl], .int .i64 pr, .int .i64 m] V (Gives (psd6 sh sl dh dl pr m) V) from fun V => pseudo6_any s6 sh sl d6 dh dl pr m V b1 b2 b3 b4 b5 ⟨by omega, by omega⟩)
  have HS0 := Lib.hid (HSF.out wc.drew (Below.refl _ _).drew)
  have hy0 := HZ.out
  have hy1 : (Z.setIfInBounds 0 (.bool true)) = #[.bool true, .int .i64 0, .bool false, .int .u64 0, .int .u64 0, .bool false, .int .u64 0, .int .u64 0, .int .i64 0, .int .i64 0, .int .i64 0, .int .i64 0, .bool false, .int .i64 0, .bool false, .int .u64 0, .int .u64 0, .bool false, .int .u64 0, .int .u64 0, .int .i64 0, .int .i64 0, .int .i64 0] := by rw [hy0]; rfl
  have hy2 : ((Z.setIfInBounds 0 (.bool true)).setIfInBounds 1 (.int .i64 pr)) = #[.bool true, .int .i64 pr, .bool false, .int .u64 0, .int .u64 0, .bool false, .int .u64 0, .int .u64 0, .int .i64 0, .int .i64 0, .int .i64 0, .int .i64 0, .bool false, .int .i64 0, .bool false, .int .u64 0, .int .u64 0, .bool false, .int .u64 0, .int .u64 0, .int .i64 0, .int .i64 0, .int .i64 0] := by rw [hy1]; rfl
  have hy3 : (((Z.setIfInBounds 0 (.bool true)).setIfInBounds 1 (.int .i64 pr)).setIfInBounds 2 (.bool s6)) = #[.bool true, .int .i64 pr, .bool s6, .int .u64 0, .int .u64 0, .bool false, .int .u64 0, .int .u64 0, .int .i64 0, .int .i64 0, .int .i64 0, .int .i64 0, .bool false, .int .i64 0, .bool false, .int .u64 0, .int .u64 0, .bool false, .int .u64 0, .int .u64 0, .int .i64 0, .int .i64 0, .int .i64 0] := by rw [hy2]; rfl
  have hy4 : ((((Z.setIfInBounds 0 (.bool true)).setIfInBounds 1 (.int .i64 pr)).setIfInBounds 2 (.bool s6)).setIfInBounds 3 (.int .u64 sh)) = #[.bool true, .int .i64 pr, .bool s6, .int .u64 sh, .int .u64 0, .bool false, .int .u64 0, .int .u64 0, .int .i64 0, .int .i64 0, .int .i64 0, .int .i64 0, .bool false, .int .i64 0, .bool false, .int .u64 0, .int .u64 0, .bool false, .int .u64 0, .int .u64 0, .int .i64 0, .int .i64 0, .int .i64 0] := by rw [hy3]; rfl
  have hy5 : (((((Z.setIfInBounds 0 (.bool true)).setIfInBounds 1 (.int .i64 pr)).setIfInBounds 2 (.bool s6)).setIfInBounds 3 (.int .u64 sh)).setIfInBounds 4 (.int .u64 sl)) = #[.bool true, .int .i64 pr, .bool s6, .int .u64 sh, .int .u64 sl, .bool false, .int .u64 0, .int .u64 0, .int .i64 0, .int .i64 0, .int .i64 0, .int .i64 0, .bool false, .int .i64 0, .bool false, .int .u64 0, .int .u64 0, .bool false, .int .u64 0, .int .u64 0, .int .i64 0, .int .i64 0, .int .i64 0] := by rw [hy4]; rfl
  have hy6 : ((((((Z.setIfInBounds 0 (.bool true)).setIfInBounds 1 (.int .i64 pr)).setIfInBounds 2 (.bool s6)).setIfInBounds 3 (.int .u64 sh)).setIfInBounds 4 (.int .u64 sl)).setIfInBounds 5 (.bool d6)) = #[.bool true, .int .i64 pr, .bool s6, .int .u64 sh, .int .u64 sl, .bool d6, .int .u64 0, .int .u64 0, .int .i64 0, .int .i64 0, .int .i64 0, .int .i64 0, .bool false, .int .i64 0, .bool false, .int .u64 0, .int .u64 0, .bool false, .int .u64 0, .int .u64 0, .int .i64 0, .int .i64 0, .int .i64 0] := by rw [hy5]; rfl
  have hy7 : (((((((Z.setIfInBounds 0 (.bool true)).setIfInBounds 1 (.int .i64 pr)).setIfInBounds 2 (.bool s6)).setIfInBounds 3 (.int .u64 sh)).setIfInBounds 4 (.int .u64 sl)).setIfInBounds 5 (.bool d6)).setIfInBounds 6 (.int .u64 dh)) = #[.bool true, .int .i64 pr, .bool s6, .int .u64 sh, .int .u64 sl, .bool d6, .int .u64 dh, .int .u64 0, .int .i64 0, .int .i64 0, .int .i64 0, .int .i64 0, .bool false, .int .i64 0, .bool false, .int .u64 0, .int .u64 0, .bool false, .int .u64 0, .int .u64 0, .int .i64 0, .int .i64 0, .int .i64 0] := by rw [hy6]; rfl
  have hy8 : ((((((((Z.setIfInBounds 0 (.bool true)).setIfInBounds 1 (.int .i64 pr)).setIfInBounds 2 (.bool s6)).setIfInBounds 3 (.int .u64 sh)).setIfInBounds 4 (.int .u64 sl)).setIfInBounds 5 (.bool d6)).setIfInBounds 6 (.int .u64 dh)).setIfInBounds 7 (.int .u64 dl)) = #[.bool true, .int .i64 pr, .bool s6, .int .u64 sh, .int .u64 sl, .bool d6, .int .u64 dh, .int .u64 dl, .int .i64 0, .int .i64 0, .int .i64 0, .int .i64 0, .bool false, .int .i64 0, .bool false, .int .u64 0, .int .u64 0, .bool false, .int .u64 0, .int .u64 0, .int .i64 0, .int .i64 0, .int .i64 0] := by rw [hy7]; rfl
  have hy9 : (((((((((Z.setIfInBounds 0 (.bool true)).setIfInBounds 1 (.int .i64 pr)).setIfInBounds 2 (.bool s6)).setIfInBounds 3 (.int .u64 sh)).setIfInBounds 4 (.int .u64 sl)).setIfInBounds 5 (.bool d6)).setIfInBounds 6 (.int .u64 dh)).setIfInBounds 7 (.int .u64 dl)).setIfInBounds 8 (.int .i64 0)) = #[.bool true, .int .i64 pr, .bool s6, .int .u64 sh, .int .u64 sl, .bool d6, .int .u64 dh, .int .u64 dl, .int .i64 0, .int .i64 0, .int .i64 0, .int .i64 0, .bool false, .int .i64 0, .bool false, .int .u64 0, .int .u64 0, .bool false, .int .u64 0, .int .u64 0, .int .i64 0, .int .i64 0, .int .i64 0] := by rw [hy8]; rfl
  have hy10 : ((((((((((Z.setIfInBounds 0 (.bool true)).setIfInBounds 1 (.int .i64 pr)).setIfInBounds 2 (.bool s6)).setIfInBounds 3 (.int .u64 sh)).setIfInBounds 4 (.int .u64 sl)).setIfInBounds 5 (.bool d6)).setIfInBounds 6 (.int .u64 dh)).setIfInBounds 7 (.int .u64 dl)).setIfInBounds 8 (.int .i64 0)).setIfInBounds 9 (.int .i64 0)) = #[.bool true, .int .i64 pr, .bool s6, .int .u64 sh, .int .u64 sl, .bool d6, .int .u64 dh, .int .u64 dl, .int .i64 0, .int .i64 0, .int .i64 0, .int .i64 0, .bool false, .int .i64 0, .bool false, .int .u64 0, .int .u64 0, .bool false, .int .u64 0, .int .u64 0, .int .i64 0, .int .i64 0, .int .i64 0] := by rw [hy9]; rfl
  have hy11 : (((((((((((Z.setIfInBounds 0 (.bool true)).setIfInBounds 1 (.int .i64 pr)).setIfInBounds 2 (.bool s6)).setIfInBounds 3 (.int .u64 sh)).setIfInBounds 4 (.int .u64 sl)).setIfInBounds 5 (.bool d6)).setIfInBounds 6 (.int .u64 dh)).setIfInBounds 7 (.int .u64 dl)).setIfInBounds 8 (.int .i64 0)).setIfInBounds 9 (.int .i64 0)).setIfInBounds 10 (.int .i64 ttl)) = #[.bool true, .int .i64 pr, .bool s6, .int .u64 sh, .int .u64 sl, .bool d6, .int .u64 dh, .int .u64 dl, .int .i64 0, .int .i64 0, .int .i64 ttl, .int .i64 0, .bool false, .int .i64 0, .bool false, .int .u64 0, .int .u64 0, .bool false, .int .u64 0, .int .u64 0, .int .i64 0, .int .i64 0, .int .i64 0] := by rw [hy10]; rfl
  have hy12 : ((((((((((((Z.setIfInBounds 0 (.bool true)).setIfInBounds 1 (.int .i64 pr)).setIfInBounds 2 (.bool s6)).setIfInBounds 3 (.int .u64 sh)).setIfInBounds 4 (.int .u64 sl)).setIfInBounds 5 (.bool d6)).setIfInBounds 6 (.int .u64 dh)).setIfInBounds 7 (.int .u64 dl)).setIfInBounds 8 (.int .i64 0)).setIfInBounds 9 (.int .i64 0)).setIfInBounds 10 (.int .i64 ttl)).setIfInBounds 22 (.int .i64 sz)) = #[.bool true, .int .i64 pr, .bool s6, .int .u64 sh, .int .u64 sl, .bool d6, .int .u64 dh, .int .u64 dl, .int .i64 0, .int .i64 0, .int .i64 ttl, .int .i64 0, .bool false, .int .i64 0, .bool false, .int .u64 0, .int .u64 0, .bool false, .int .u64 0, .int .u64 0, .int .i64 0, .int .i64 0, .int .i64 sz] := by rw [hy11]; rfl
  have HY := Lib.hid hy12
  clear hy0 hy1 hy2 hy3 hy4 hy5 hy6 hy7 hy8 hy9 hy10 hy11 hy12
  have HST := Lib.hid (show ∀ (V : World) (g : Nat), Blk V g 58 Z → (storeCells ⟨g, 0, none⟩ ((((((((((((Z.toList.set 0 (.bool true)).set 1 (.int .i64 pr)).set 2 (.bool s6)).set 3 (.int .u64 sh)).set 4 (.int .u64 sl)).set 5 (.bool d6)).set 6 (.int .u64 dh)).set 7 (.int .u64 dl)).set 8 (.int .i64 0)).set 9 (.int .i64 0)).set 10 (.int .i64 ttl)).set 22 (.int .i64 sz)) 0).run Try.prog V = .ok () (V.setRow g ((((((((((((Z.setIfInBounds 0 (.bool true)).setIfInBounds 1 (.int .i64 pr)).setIfInBounds 2 (.bool s6)).setIfInBounds 3 (.int .u64 sh)).setIfInBounds 4 (.int .u64 sl)).setIfInBounds 5 (.bool d6)).setIfInBounds 6 (.int .u64 dh)).setIfInBounds 7 (.int .u64 dl)).setIfInBounds 8 (.int .i64 0)).setIfInBounds 9 (.int .i64 0)).setIfInBounds 10 (.int .i64 ttl)).setIfInBounds 22 (.int .i64 sz))) from fun V g hg => by
    have h9 := store_pk V g Z ((((((((((((Z.setIfInBounds 0 (.bool true)).setIfInBounds 1 (.int .i64 pr)).setIfInBounds 2 (.bool s6)).setIfInBounds 3 (.int .u64 sh)).setIfInBounds 4 (.int .u64 sl)).setIfInBounds 5 (.bool d6)).setIfInBounds 6 (.int .u64 dh)).setIfInBounds 7 (.int .u64 dl)).setIfInBounds 8 (.int .i64 0)).setIfInBounds 9 (.int .i64 0)).setIfInBounds 10 (.int .i64 ttl)).setIfInBounds 22 (.int .i64 sz)) hg ZS.out (by rw [HY.out]; rfl) (by rw [HY.out]; simp [Value.oneCell'])
    simpa only [Array.toList_setIfInBounds] using h9)
  have YS := Lib.hid (show (((((((((((((Z.setIfInBounds 0 (.bool true)).setIfInBounds 1 (.int .i64 pr)).setIfInBounds 2 (.bool s6)).setIfInBounds 3 (.int .u64 sh)).setIfInBounds 4 (.int .u64 sl)).setIfInBounds 5 (.bool d6)).setIfInBounds 6 (.int .u64 dh)).setIfInBounds 7 (.int .u64 dl)).setIfInBounds 8 (.int .i64 0)).setIfInBounds 9 (.int .i64 0)).setIfInBounds 10 (.int .i64 ttl)).setIfInBounds 22 (.int .i64 sz))).size = 23 from by rw [HY.out]; rfl)
  clear hsz b1 b2 b3 b4 b5
  go_upto_region 13 with fail
  have A1 := Lib.hid (show Below wc.heap.size wc wc.drew from (Below.refl _ _).drew)
  go_region_held3 (fun V => V.cell? ⟨h, 0, none⟩ = some (.int .i64 cls) ∧ V.cell? ⟨h, 1, none⟩ = some (.int .i64 lab) ∧ V.cell? ⟨h, 2, none⟩ = some (.int .i64 ttl) ∧ V.cell? ⟨h, 3, none⟩ = some (.bool s6) ∧ V.cell? ⟨h, 4, none⟩ = some (.int .u64 sh) ∧ V.cell? ⟨h, 5, none⟩ = some (.int .u64 sl) ∧ V.cell? ⟨h, 6, none⟩ = some (.bool d6) ∧ V.cell? ⟨h, 7, none⟩ = some (.int .u64 dh) ∧ V.cell? ⟨h, 8, none⟩ = some (.int .u64 dl) ∧ V.cell? ⟨h, 9, none⟩ = some (.slice AX nx cx) ∧ V.cell? ⟨h, 10, none⟩ = some (.int .i64 pr)) (first | with_reducible assumption | with_reducible exact HS0.out | with_reducible exact HS5.out | with_reducible exact HS6.out | with_reducible exact HS7.out) (first
    | (go_at_call 20; (with_reducible refine (HLN.out _ (by with_reducible exact A1.out)).mono ?_); rintro o w5 ⟨rfl, hb5⟩; have O5 := Lib.hid (show Below wc.heap.size wc w5 from by with_reducible exact below_dr hb5); have HS5 := Lib.hid (HSF.out w5 O5.out); clear hb5)
    | (go_at_call 84; (with_reducible refine (HPS.out _).mono ?_); rintro o w6 ⟨hb6, A6, n6, c6, rfl, hsl6, _⟩; have O6 := Lib.hid (O5.out.trans (hb6.mono O5.out.size)); have HS6 := Lib.hid (HSF.out w6 O6.out); have KQ6 := Lib.hid (KQc.out.below O6.out KQc.out.lt); have SP6 := Lib.hid hsl6; have KH6 := Lib.hid (KHc.out.below O6.out KHc.out.lt); have ST1 := HST.out w6 q KQ6.out; have ON := Lib.hid (show OnlyG q w6 (w6.setRow q ((((((((((((Z.setIfInBounds 0 (.bool true)).setIfInBounds 1 (.int .i64 pr)).setIfInBounds 2 (.bool s6)).setIfInBounds 3 (.int .u64 sh)).setIfInBounds 4 (.int .u64 sl)).setIfInBounds 5 (.bool d6)).setIfInBounds 6 (.int .u64 dh)).setIfInBounds 7 (.int .u64 dl)).setIfInBounds 8 (.int .i64 0)).setIfInBounds 9 (.int .i64 0)).setIfInBounds 10 (.int .i64 ttl)).setIfInBounds 22 (.int .i64 sz))) from onlyRow _); have KHN := Lib.hid (ON.out.blk KH6.out (Nat.ne_of_gt QH.out)); have HS7 := Lib.hid (show (w6.setRow q ((((((((((((Z.setIfInBounds 0 (.bool true)).setIfInBounds 1 (.int .i64 pr)).setIfInBounds 2 (.bool s6)).setIfInBounds 3 (.int .u64 sh)).setIfInBounds 4 (.int .u64 sl)).setIfInBounds 5 (.bool d6)).setIfInBounds 6 (.int .u64 dh)).setIfInBounds 7 (.int .u64 dl)).setIfInBounds 8 (.int .i64 0)).setIfInBounds 9 (.int .i64 0)).setIfInBounds 10 (.int .i64 ttl)).setIfInBounds 22 (.int .i64 sz))).cell? ⟨h, 0, none⟩ = some (.int .i64 cls) ∧ (w6.setRow q ((((((((((((Z.setIfInBounds 0 (.bool true)).setIfInBounds 1 (.int .i64 pr)).setIfInBounds 2 (.bool s6)).setIfInBounds 3 (.int .u64 sh)).setIfInBounds 4 (.int .u64 sl)).setIfInBounds 5 (.bool d6)).setIfInBounds 6 (.int .u64 dh)).setIfInBounds 7 (.int .u64 dl)).setIfInBounds 8 (.int .i64 0)).setIfInBounds 9 (.int .i64 0)).setIfInBounds 10 (.int .i64 ttl)).setIfInBounds 22 (.int .i64 sz))).cell? ⟨h, 1, none⟩ = some (.int .i64 lab) ∧ (w6.setRow q ((((((((((((Z.setIfInBounds 0 (.bool true)).setIfInBounds 1 (.int .i64 pr)).setIfInBounds 2 (.bool s6)).setIfInBounds 3 (.int .u64 sh)).setIfInBounds 4 (.int .u64 sl)).setIfInBounds 5 (.bool d6)).setIfInBounds 6 (.int .u64 dh)).setIfInBounds 7 (.int .u64 dl)).setIfInBounds 8 (.int .i64 0)).setIfInBounds 9 (.int .i64 0)).setIfInBounds 10 (.int .i64 ttl)).setIfInBounds 22 (.int .i64 sz))).cell? ⟨h, 2, none⟩ = some (.int .i64 ttl) ∧ (w6.setRow q ((((((((((((Z.setIfInBounds 0 (.bool true)).setIfInBounds 1 (.int .i64 pr)).setIfInBounds 2 (.bool s6)).setIfInBounds 3 (.int .u64 sh)).setIfInBounds 4 (.int .u64 sl)).setIfInBounds 5 (.bool d6)).setIfInBounds 6 (.int .u64 dh)).setIfInBounds 7 (.int .u64 dl)).setIfInBounds 8 (.int .i64 0)).setIfInBounds 9 (.int .i64 0)).setIfInBounds 10 (.int .i64 ttl)).setIfInBounds 22 (.int .i64 sz))).cell? ⟨h, 3, none⟩ = some (.bool s6) ∧ (w6.setRow q ((((((((((((Z.setIfInBounds 0 (.bool true)).setIfInBounds 1 (.int .i64 pr)).setIfInBounds 2 (.bool s6)).setIfInBounds 3 (.int .u64 sh)).setIfInBounds 4 (.int .u64 sl)).setIfInBounds 5 (.bool d6)).setIfInBounds 6 (.int .u64 dh)).setIfInBounds 7 (.int .u64 dl)).setIfInBounds 8 (.int .i64 0)).setIfInBounds 9 (.int .i64 0)).setIfInBounds 10 (.int .i64 ttl)).setIfInBounds 22 (.int .i64 sz))).cell? ⟨h, 4, none⟩ = some (.int .u64 sh) ∧ (w6.setRow q ((((((((((((Z.setIfInBounds 0 (.bool true)).setIfInBounds 1 (.int .i64 pr)).setIfInBounds 2 (.bool s6)).setIfInBounds 3 (.int .u64 sh)).setIfInBounds 4 (.int .u64 sl)).setIfInBounds 5 (.bool d6)).setIfInBounds 6 (.int .u64 dh)).setIfInBounds 7 (.int .u64 dl)).setIfInBounds 8 (.int .i64 0)).setIfInBounds 9 (.int .i64 0)).setIfInBounds 10 (.int .i64 ttl)).setIfInBounds 22 (.int .i64 sz))).cell? ⟨h, 5, none⟩ = some (.int .u64 sl) ∧ (w6.setRow q ((((((((((((Z.setIfInBounds 0 (.bool true)).setIfInBounds 1 (.int .i64 pr)).setIfInBounds 2 (.bool s6)).setIfInBounds 3 (.int .u64 sh)).setIfInBounds 4 (.int .u64 sl)).setIfInBounds 5 (.bool d6)).setIfInBounds 6 (.int .u64 dh)).setIfInBounds 7 (.int .u64 dl)).setIfInBounds 8 (.int .i64 0)).setIfInBounds 9 (.int .i64 0)).setIfInBounds 10 (.int .i64 ttl)).setIfInBounds 22 (.int .i64 sz))).cell? ⟨h, 6, none⟩ = some (.bool d6) ∧ (w6.setRow q ((((((((((((Z.setIfInBounds 0 (.bool true)).setIfInBounds 1 (.int .i64 pr)).setIfInBounds 2 (.bool s6)).setIfInBounds 3 (.int .u64 sh)).setIfInBounds 4 (.int .u64 sl)).setIfInBounds 5 (.bool d6)).setIfInBounds 6 (.int .u64 dh)).setIfInBounds 7 (.int .u64 dl)).setIfInBounds 8 (.int .i64 0)).setIfInBounds 9 (.int .i64 0)).setIfInBounds 10 (.int .i64 ttl)).setIfInBounds 22 (.int .i64 sz))).cell? ⟨h, 7, none⟩ = some (.int .u64 dh) ∧ (w6.setRow q ((((((((((((Z.setIfInBounds 0 (.bool true)).setIfInBounds 1 (.int .i64 pr)).setIfInBounds 2 (.bool s6)).setIfInBounds 3 (.int .u64 sh)).setIfInBounds 4 (.int .u64 sl)).setIfInBounds 5 (.bool d6)).setIfInBounds 6 (.int .u64 dh)).setIfInBounds 7 (.int .u64 dl)).setIfInBounds 8 (.int .i64 0)).setIfInBounds 9 (.int .i64 0)).setIfInBounds 10 (.int .i64 ttl)).setIfInBounds 22 (.int .i64 sz))).cell? ⟨h, 8, none⟩ = some (.int .u64 dl) ∧ (w6.setRow q ((((((((((((Z.setIfInBounds 0 (.bool true)).setIfInBounds 1 (.int .i64 pr)).setIfInBounds 2 (.bool s6)).setIfInBounds 3 (.int .u64 sh)).setIfInBounds 4 (.int .u64 sl)).setIfInBounds 5 (.bool d6)).setIfInBounds 6 (.int .u64 dh)).setIfInBounds 7 (.int .u64 dl)).setIfInBounds 8 (.int .i64 0)).setIfInBounds 9 (.int .i64 0)).setIfInBounds 10 (.int .i64 ttl)).setIfInBounds 22 (.int .i64 sz))).cell? ⟨h, 9, none⟩ = some (.slice AX nx cx) ∧ (w6.setRow q ((((((((((((Z.setIfInBounds 0 (.bool true)).setIfInBounds 1 (.int .i64 pr)).setIfInBounds 2 (.bool s6)).setIfInBounds 3 (.int .u64 sh)).setIfInBounds 4 (.int .u64 sl)).setIfInBounds 5 (.bool d6)).setIfInBounds 6 (.int .u64 dh)).setIfInBounds 7 (.int .u64 dl)).setIfInBounds 8 (.int .i64 0)).setIfInBounds 9 (.int .i64 0)).setIfInBounds 10 (.int .i64 ttl)).setIfInBounds 22 (.int .i64 sz))).cell? ⟨h, 10, none⟩ = some (.int .i64 pr) from ⟨KHN.out.cell 0, KHN.out.cell 1, KHN.out.cell 2, KHN.out.cell 3, KHN.out.cell 4, KHN.out.cell 5, KHN.out.cell 6, KHN.out.cell 7, KHN.out.cell 8, KHN.out.cell 9, KHN.out.cell 10⟩); clear hb6 hsl6))
  have ZN := Lib.hid (show ∀ (i : Nat) (x : Int), Z[i]? ≠ some (.int .u8 x) from by rw [HZ.out]; exact zero_no8)
  have SL6 := Lib.hid ((SLc.out.below O6.out).keep KQ6.out ZN.out ON.out)
  have SP7 := Lib.hid (SP6.out.keep KQ6.out ZN.out ON.out)
  have B7 := Lib.hid (ON.out.from (Bc.out.trans (O6.out.mono Bc.out.size)) (by have := EQ.out; omega))
  have KQ7 := Lib.hid (show Blk (w6.setRow q ((((((((((((Z.setIfInBounds 0 (.bool true)).setIfInBounds 1 (.int .i64 pr)).setIfInBounds 2 (.bool s6)).setIfInBounds 3 (.int .u64 sh)).setIfInBounds 4 (.int .u64 sl)).setIfInBounds 5 (.bool d6)).setIfInBounds 6 (.int .u64 dh)).setIfInBounds 7 (.int .u64 dl)).setIfInBounds 8 (.int .i64 0)).setIfInBounds 9 (.int .i64 0)).setIfInBounds 10 (.int .i64 ttl)).setIfInBounds 22 (.int .i64 sz))) q 58 ((((((((((((Z.setIfInBounds 0 (.bool true)).setIfInBounds 1 (.int .i64 pr)).setIfInBounds 2 (.bool s6)).setIfInBounds 3 (.int .u64 sh)).setIfInBounds 4 (.int .u64 sl)).setIfInBounds 5 (.bool d6)).setIfInBounds 6 (.int .u64 dh)).setIfInBounds 7 (.int .u64 dl)).setIfInBounds 8 (.int .i64 0)).setIfInBounds 9 (.int .i64 0)).setIfInBounds 10 (.int .i64 ttl)).setIfInBounds 22 (.int .i64 sz)) from blkRow KQ6.out _)
  clear ST1
  go_wp2_with fail
  refine bodyPost_ret (results_o4 rfl _ _ q _ rfl KQ7.out YS.out) rfl ?_
  exact ⟨B7.out, AR, cr, A6, n6, c6, by rw [HY.out]; rfl, SL6.out, SP7.out⟩
set_option maxHeartbeats 8000000 in
set_option maxRecDepth 100000 in
theorem lo4_any (b off n c : Nat) (l : List Int) (w : World) (hl : l.length = n) (hn : 0 < n) (hn2 : n ≤ 1000) (hb : b < w.heap.size) (hs : Lies w b off l) (h4 : l.getD 0 0 / 16 = 4) (hu : U8 l)
    (mf : Bool) (fr ttl pr sl dl : Int) (no : Nat) (r : List Int) (hr : r.length ≤ 1000) (hno : no ≤ 1000) (e e2 : Int) (he2 : e2 = if (e == 0 && (decide (0 < fr) || mf)) = true then 21 else e) (sz : Int) (hsz : sz = 20 + (no : Int) + (r.length : Int)) (b2 : 0 ≤ sl ∧ sl < 18446744073709551616) (b4 : 0 ≤ dl ∧ dl < 18446744073709551616) (b5 : 0 ≤ pr ∧ pr ≤ 255)
    (HC : Hid (∀ V, Below w.heap.size w V → Calls Try.prog 79 #[.slice (some ⟨b, off, none⟩) n c] V fun o w' => Below V.heap.size V w' ∧ ∃ (tos id : Int) (df : Bool) (AO : Option Addr) (co : Nat) (AR : Option Addr) (cr : Nat), o = .returned (.tuple #[.agg #[.int .i64 tos, .int .i64 id, .bool df, .bool mf, .int .i64 fr, .int .i64 ttl, .int .i64 pr, .bool false, .int .u64 0, .int .u64 sl, .bool false, .int .u64 0, .int .u64 dl, .slice AO no co], .slice AR r.length cr, .int .i64 e]) ∧ Sl w' AR r.length cr r)) :
    Calls Try.prog 58 #[.slice (some ⟨b, off, none⟩) n c] w fun o w' => Below w.heap.size w w' ∧ ∃ (AR : Option Addr) (cr : Nat) (AP : Option Addr) (np cp : Nat), o = .returned (.tuple #[.agg #[.bool false, .int .i64 pr, .bool false, .int .u64 0, .int .u64 sl, .bool false, .int .u64 0, .int .u64 dl, .int .i64 0, .int .i64 0, .int .i64 ttl, .int .i64 0, .bool false, .int .i64 0, .bool false, .int .u64 0, .int .u64 0, .bool false, .int .u64 0, .int .u64 0, .int .i64 0, .int .i64 0, .int .i64 sz], .slice AR r.length cr, .slice AP np cp, .int .i64 e2]) ∧ Sl w' AR r.length cr r ∧ Sl w' AP np cp (psd4 sl dl pr r.length) := by
  obtain ⟨m, hm0⟩ : ∃ m, m = r.length := ⟨_, rfl⟩
  rw [← hm0] at HC hr hsz ⊢
  clear hm0
  obtain ⟨Z, hZ⟩ : ∃ Z : Array Value, Z = #[.bool false, .int .i64 0, .bool false, .int .u64 0, .int .u64 0, .bool false, .int .u64 0, .int .u64 0, .int .i64 0, .int .i64 0, .int .i64 0, .int .i64 0, .bool false, .int .i64 0, .bool false, .int .u64 0, .int .u64 0, .bool false, .int .u64 0, .int .u64 0, .int .i64 0, .int .i64 0, .int .i64 0] := ⟨_, rfl⟩
  have hz : ∀ w : World, (zeroValue 58).run Try.prog w = .ok (.agg Z) w := by rw [hZ]; exact (zero_of_info pktF.zeroPkI).1
  have zs : Z.size = 23 := by rw [hZ]; rfl
  have zs2 : ¬ Z = #[] := by intro h; rw [h] at zs; cases zs
  have ZS := Lib.hid zs
  have HZ := Lib.hid hZ
  have ZO := Lib.hid (show Z.all (·.oneCell') = true from by rw [hZ]; kernel_rfl)
  clear hZ
  obtain ⟨w1, hw1⟩ : ∃ w1, w1 = w.alloc (.cells Z 58) := ⟨_, rfl⟩
  have E1 := Lib.hid hw1
  have B1 := Lib.hid (show Below w.heap.size w w1 from by rw [hw1]; exact (Below.refl _ _).alloc (Nat.le_refl _) _)
  obtain ⟨q, hq⟩ : ∃ q, q = w.heap.size := ⟨_, rfl⟩
  have EQ := Lib.hid hq
  have KQ1 := Lib.hid (show Blk w1 q 58 Z from by rw [hw1, hq]; exact Blk.new w _ _)
  have HI := Lib.hid pk_size
  have HIZ := Lib.hid (show (Try.prog.info? 58).map (·.size) = some Z.size from by rw [zs]; exact pk_size)
  clear hw1 hq
  have u0 := hu.get 0
  have y0 : w1.cell? ⟨b, off, none⟩ = some (.int .u8 (l.getD 0 0)) := (hs.below B1.out hb) 0 (by omega)
  have c0 : ((n : Int) == 0) = false := by simp; omega
  have c0n : (n == 0) = false := by simp; omega
  have j1 : (0 : Int) < n := by omega
  have t4 : (l.getD 0 0 / 16 == 4) = true := by simpa using h4
  obtain ⟨x, hx⟩ : ∃ x, x = l.getD 0 0 := ⟨_, rfl⟩
  rw [← hx] at y0 u0 t4
  clear h4 hu hs hl hx
  go_enter Try.func58, Try.ntmps58
  go_upto_region 1 with fail
  rw [← E1.out, ← EQ.out]
  go_wp2_with fail
  refine (HC.out _ B1.out).mono ?_
  rintro o w2 ⟨hb2, tos, id, df, AO, co, AR, cr, rfl, hsl⟩
  obtain ⟨w3, hw3⟩ : ∃ w3, w3 = w2.alloc (.cells #[.int .i64 tos, .int .i64 id, .bool df, .bool mf, .int .i64 fr, .int .i64 ttl, .int .i64 pr, .bool false, .int .u64 0, .int .u64 sl, .bool false, .int .u64 0, .int .u64 dl, .slice AO no co] 53) := ⟨_, rfl⟩
  obtain ⟨h, hh⟩ : ∃ h, h = w2.heap.size := ⟨_, rfl⟩
  have EH := Lib.hid hh
  have E3 := Lib.hid hw3
  have B23 := Lib.hid (show Below w2.heap.size w2 w3 from by rw [hw3]; exact (Below.refl _ _).alloc (Nat.le_refl _) _)
  have B13 := Lib.hid (hb2.trans (B23.out.mono hb2.size))
  have KH3 := Lib.hid (show Blk w3 h 53 #[.int .i64 tos, .int .i64 id, .bool df, .bool mf, .int .i64 fr, .int .i64 ttl, .int .i64 pr, .bool false, .int .u64 0, .int .u64 sl, .bool false, .int .u64 0, .int .u64 dl, .slice AO no co] from by rw [hw3, hh]; exact Blk.new w2 _ _)
  have KQ3 := Lib.hid (KQ1.out.below B13.out KQ1.out.lt)
  have B3 := Lib.hid (B1.out.trans (B13.out.mono B1.out.size))
  have SL3 := Lib.hid (hsl.below B23.out)
  have QH := Lib.hid (show q < h from by have := KQ1.out.lt; have := hb2.size; omega)
  clear hw3 hb2 hh hsl
  go_upto_region 5 with fail
  rw [← E3.out, ← EH.out]
  have HE2 := Lib.hid he2
  clear he2
  go_cut [37] (fun v wx => v = .bool (e == 0 && (decide (0 < fr) || mf)) ∧ wx = w3)
  case first =>
    have k3 := KH3.out.cell 3
    have k4 := KH3.out.cell 4
    by_cases he : e = 0
    · have te : (e == 0) = true := by simp [he]
      clear he
      by_cases hf : 0 < fr
      · have tg : decide (0 < fr) = true := decide_eq_true hf
        go_wp2_with fail
        go_meet
        exact ⟨by simp [te, tg], rfl⟩
      · have tg : decide (0 < fr) = false := decide_eq_false hf
        go_wp2_with fail
        go_meet
        exact ⟨by simp [te, tg], rfl⟩
    · have te : (e == 0) = false := by simp [he]
      clear he
      go_wp2_with fail
      go_meet
      exact ⟨by simp [te], rfl⟩
  case rest =>
  obtain ⟨rfl, hwc⟩ := hcut
  rw [hwc]
  clear hwc wc
  go_upto_if 37 with fail
  go_cut [8] (fun v wx => v = .int .i64 e2 ∧ wx = w3)
  case first =>
    have he2 := HE2.out
    cases hg : (e == 0 && (decide (0 < fr) || mf)) with
    | true =>
      rw [hg, if_pos rfl] at he2
      go_wp2_with fail
      go_meet
      exact ⟨by rw [he2], rfl⟩
    | false =>
      rw [hg, if_neg (by decide)] at he2
      go_wp2_with fail
      go_meet
      exact ⟨by rw [he2], rfl⟩
  case rest =>
  obtain ⟨rfl, hwc⟩ := hcut
  rw [hwc]
  clear hwc wc
  have HSF := Lib.hid (show ∀ V, Below w3.heap.size w3 V → (V.cell? ⟨h, 0, none⟩ = some (.int .i64 tos) ∧ V.cell? ⟨h, 1, none⟩ = some (.int .i64 id) ∧ V.cell? ⟨h, 2, none⟩ = some (.bool df) ∧ V.cell? ⟨h, 3, none⟩ = some (.bool mf) ∧ V.cell? ⟨h, 4, none⟩ = some (.int .i64 fr) ∧ V.cell? ⟨h, 5, none⟩ = some (.int .i64 ttl) ∧ V.cell? ⟨h, 6, none⟩ = some (.int .i64 pr) ∧ V.cell? ⟨h, 7, none⟩ = some (.bool false) ∧ V.cell? ⟨h, 8, none⟩ = some (.int .u64 0) ∧ V.cell? ⟨h, 9, none⟩ = some (.int .u64 sl) ∧ V.cell? ⟨h, 10, none⟩ = some (.bool false) ∧ V.cell? ⟨h, 11, none⟩ = some (.int .u64 0) ∧ V.cell? ⟨h, 12, none⟩ = some (.int .u64 dl) ∧ V.cell? ⟨h, 13, none⟩ = some (.slice AO no co)) from fun V hV => ⟨(KH3.out.below hV KH3.out.lt).cell 0, (KH3.out.below hV KH3.out.lt).cell 1, (KH3.out.below hV KH3.out.lt).cell 2, (KH3.out.below hV KH3.out.lt).cell 3, (KH3.out.below hV KH3.out.lt).cell 4, (KH3.out.below hV KH3.out.lt).cell 5, (KH3.out.below hV KH3.out.lt).cell 6, (KH3.out.below hV KH3.out.lt).cell 7, (KH3.out.below hV KH3.out.lt).cell 8, (KH3.out.below hV KH3.out.lt).cell 9, (KH3.out.below hV KH3.out.lt).cell 10, (KH3.out.below hV KH3.out.lt).cell 11, (KH3.out.below hV KH3.out.lt).cell 12, (KH3.out.below hV KH3.out.lt).cell 13⟩)
  have HLN := Lib.hid (show ∀ V, Below w3.heap.size w3 V → Calls Try.prog 80 #[.agg #[.int .i64 tos, .int .i64 id, .bool df, .bool mf, .int .i64 fr, .int .i64 ttl, .int .i64 pr, .bool false, .int .u64 0, .int .u64 sl, .bool false, .int .u64 0, .int .u64 dl, .slice AO no co]] V fun o w' => o = .returned (.int .i64 (20 + (no : Int))) ∧ Below V.heap.size V w' from fun V hV => len4_any tos id df mf fr ttl pr sl dl AO no co V hno)
  have wsz : IntKind.i64.wrap (20 + (no : Int) + (m : Int)) = sz := by rw [IntWalk.i64_in _ (by omega), hsz]
  have HPS := Lib.hid (show ∀ V, Calls Try.prog 83 #[.agg #[.bool false, .int .u64 0, .int .u64 sl], .agg #[.bool false, .int .u64 0, .int .u64 dl], .int .i64 pr, .int .i64 m] V (Gives (psd4 sl dl pr m) V) from fun V => pseudo4_any false 0 sl false 0 dl pr m V ⟨by omega, by omega⟩ b2 ⟨by omega, by omega⟩ b4 b5 ⟨by omega, by omega⟩)
  have HS0 := Lib.hid (HSF.out w3.drew (Below.refl _ _).drew)
  have hy0 := HZ.out
  have hy1 : (Z.setIfInBounds 1 (.int .i64 pr)) = #[.bool false, .int .i64 pr, .bool false, .int .u64 0, .int .u64 0, .bool false, .int .u64 0, .int .u64 0, .int .i64 0, .int .i64 0, .int .i64 0, .int .i64 0, .bool false, .int .i64 0, .bool false, .int .u64 0, .int .u64 0, .bool false, .int .u64 0, .int .u64 0, .int .i64 0, .int .i64 0, .int .i64 0] := by rw [hy0]; rfl
  have hy2 : ((Z.setIfInBounds 1 (.int .i64 pr)).setIfInBounds 2 (.bool false)) = #[.bool false, .int .i64 pr, .bool false, .int .u64 0, .int .u64 0, .bool false, .int .u64 0, .int .u64 0, .int .i64 0, .int .i64 0, .int .i64 0, .int .i64 0, .bool false, .int .i64 0, .bool false, .int .u64 0, .int .u64 0, .bool false, .int .u64 0, .int .u64 0, .int .i64 0, .int .i64 0, .int .i64 0] := by rw [hy1]; rfl
  have hy3 : (((Z.setIfInBounds 1 (.int .i64 pr)).setIfInBounds 2 (.bool false)).setIfInBounds 3 (.int .u64 0)) = #[.bool false, .int .i64 pr, .bool false, .int .u64 0, .int .u64 0, .bool false, .int .u64 0, .int .u64 0, .int .i64 0, .int .i64 0, .int .i64 0, .int .i64 0, .bool false, .int .i64 0, .bool false, .int .u64 0, .int .u64 0, .bool false, .int .u64 0, .int .u64 0, .int .i64 0, .int .i64 0, .int .i64 0] := by rw [hy2]; rfl
  have hy4 : ((((Z.setIfInBounds 1 (.int .i64 pr)).setIfInBounds 2 (.bool false)).setIfInBounds 3 (.int .u64 0)).setIfInBounds 4 (.int .u64 sl)) = #[.bool false, .int .i64 pr, .bool false, .int .u64 0, .int .u64 sl, .bool false, .int .u64 0, .int .u64 0, .int .i64 0, .int .i64 0, .int .i64 0, .int .i64 0, .bool false, .int .i64 0, .bool false, .int .u64 0, .int .u64 0, .bool false, .int .u64 0, .int .u64 0, .int .i64 0, .int .i64 0, .int .i64 0] := by rw [hy3]; rfl
  have hy5 : (((((Z.setIfInBounds 1 (.int .i64 pr)).setIfInBounds 2 (.bool false)).setIfInBounds 3 (.int .u64 0)).setIfInBounds 4 (.int .u64 sl)).setIfInBounds 5 (.bool false)) = #[.bool false, .int .i64 pr, .bool false, .int .u64 0, .int .u64 sl, .bool false, .int .u64 0, .int .u64 0, .int .i64 0, .int .i64 0, .int .i64 0, .int .i64 0, .bool false, .int .i64 0, .bool false, .int .u64 0, .int .u64 0, .bool false, .int .u64 0, .int .u64 0, .int .i64 0, .int .i64 0, .int .i64 0] := by rw [hy4]; rfl
  have hy6 : ((((((Z.setIfInBounds 1 (.int .i64 pr)).setIfInBounds 2 (.bool false)).setIfInBounds 3 (.int .u64 0)).setIfInBounds 4 (.int .u64 sl)).setIfInBounds 5 (.bool false)).setIfInBounds 6 (.int .u64 0)) = #[.bool false, .int .i64 pr, .bool false, .int .u64 0, .int .u64 sl, .bool false, .int .u64 0, .int .u64 0, .int .i64 0, .int .i64 0, .int .i64 0, .int .i64 0, .bool false, .int .i64 0, .bool false, .int .u64 0, .int .u64 0, .bool false, .int .u64 0, .int .u64 0, .int .i64 0, .int .i64 0, .int .i64 0] := by rw [hy5]; rfl
  have hy7 : (((((((Z.setIfInBounds 1 (.int .i64 pr)).setIfInBounds 2 (.bool false)).setIfInBounds 3 (.int .u64 0)).setIfInBounds 4 (.int .u64 sl)).setIfInBounds 5 (.bool false)).setIfInBounds 6 (.int .u64 0)).setIfInBounds 7 (.int .u64 dl)) = #[.bool false, .int .i64 pr, .bool false, .int .u64 0, .int .u64 sl, .bool false, .int .u64 0, .int .u64 dl, .int .i64 0, .int .i64 0, .int .i64 0, .int .i64 0, .bool false, .int .i64 0, .bool false, .int .u64 0, .int .u64 0, .bool false, .int .u64 0, .int .u64 0, .int .i64 0, .int .i64 0, .int .i64 0] := by rw [hy6]; rfl
  have hy8 : ((((((((Z.setIfInBounds 1 (.int .i64 pr)).setIfInBounds 2 (.bool false)).setIfInBounds 3 (.int .u64 0)).setIfInBounds 4 (.int .u64 sl)).setIfInBounds 5 (.bool false)).setIfInBounds 6 (.int .u64 0)).setIfInBounds 7 (.int .u64 dl)).setIfInBounds 8 (.int .i64 0)) = #[.bool false, .int .i64 pr, .bool false, .int .u64 0, .int .u64 sl, .bool false, .int .u64 0, .int .u64 dl, .int .i64 0, .int .i64 0, .int .i64 0, .int .i64 0, .bool false, .int .i64 0, .bool false, .int .u64 0, .int .u64 0, .bool false, .int .u64 0, .int .u64 0, .int .i64 0, .int .i64 0, .int .i64 0] := by rw [hy7]; rfl
  have hy9 : (((((((((Z.setIfInBounds 1 (.int .i64 pr)).setIfInBounds 2 (.bool false)).setIfInBounds 3 (.int .u64 0)).setIfInBounds 4 (.int .u64 sl)).setIfInBounds 5 (.bool false)).setIfInBounds 6 (.int .u64 0)).setIfInBounds 7 (.int .u64 dl)).setIfInBounds 8 (.int .i64 0)).setIfInBounds 9 (.int .i64 0)) = #[.bool false, .int .i64 pr, .bool false, .int .u64 0, .int .u64 sl, .bool false, .int .u64 0, .int .u64 dl, .int .i64 0, .int .i64 0, .int .i64 0, .int .i64 0, .bool false, .int .i64 0, .bool false, .int .u64 0, .int .u64 0, .bool false, .int .u64 0, .int .u64 0, .int .i64 0, .int .i64 0, .int .i64 0] := by rw [hy8]; rfl
  have hy10 : ((((((((((Z.setIfInBounds 1 (.int .i64 pr)).setIfInBounds 2 (.bool false)).setIfInBounds 3 (.int .u64 0)).setIfInBounds 4 (.int .u64 sl)).setIfInBounds 5 (.bool false)).setIfInBounds 6 (.int .u64 0)).setIfInBounds 7 (.int .u64 dl)).setIfInBounds 8 (.int .i64 0)).setIfInBounds 9 (.int .i64 0)).setIfInBounds 10 (.int .i64 ttl)) = #[.bool false, .int .i64 pr, .bool false, .int .u64 0, .int .u64 sl, .bool false, .int .u64 0, .int .u64 dl, .int .i64 0, .int .i64 0, .int .i64 ttl, .int .i64 0, .bool false, .int .i64 0, .bool false, .int .u64 0, .int .u64 0, .bool false, .int .u64 0, .int .u64 0, .int .i64 0, .int .i64 0, .int .i64 0] := by rw [hy9]; rfl
  have hy11 : (((((((((((Z.setIfInBounds 1 (.int .i64 pr)).setIfInBounds 2 (.bool false)).setIfInBounds 3 (.int .u64 0)).setIfInBounds 4 (.int .u64 sl)).setIfInBounds 5 (.bool false)).setIfInBounds 6 (.int .u64 0)).setIfInBounds 7 (.int .u64 dl)).setIfInBounds 8 (.int .i64 0)).setIfInBounds 9 (.int .i64 0)).setIfInBounds 10 (.int .i64 ttl)).setIfInBounds 22 (.int .i64 sz)) = #[.bool false, .int .i64 pr, .bool false, .int .u64 0, .int .u64 sl, .bool false, .int .u64 0, .int .u64 dl, .int .i64 0, .int .i64 0, .int .i64 ttl, .int .i64 0, .bool false, .int .i64 0, .bool false, .int .u64 0, .int .u64 0, .bool false, .int .u64 0, .int .u64 0, .int .i64 0, .int .i64 0, .int .i64 sz] := by rw [hy10]; rfl
  have HY := Lib.hid hy11
  clear hy0 hy1 hy2 hy3 hy4 hy5 hy6 hy7 hy8 hy9 hy10 hy11
  have HST := Lib.hid (show ∀ (V : World) (g : Nat), Blk V g 58 Z → (storeCells ⟨g, 0, none⟩ (((((((((((Z.toList.set 1 (.int .i64 pr)).set 2 (.bool false)).set 3 (.int .u64 0)).set 4 (.int .u64 sl)).set 5 (.bool false)).set 6 (.int .u64 0)).set 7 (.int .u64 dl)).set 8 (.int .i64 0)).set 9 (.int .i64 0)).set 10 (.int .i64 ttl)).set 22 (.int .i64 sz)) 0).run Try.prog V = .ok () (V.setRow g (((((((((((Z.setIfInBounds 1 (.int .i64 pr)).setIfInBounds 2 (.bool false)).setIfInBounds 3 (.int .u64 0)).setIfInBounds 4 (.int .u64 sl)).setIfInBounds 5 (.bool false)).setIfInBounds 6 (.int .u64 0)).setIfInBounds 7 (.int .u64 dl)).setIfInBounds 8 (.int .i64 0)).setIfInBounds 9 (.int .i64 0)).setIfInBounds 10 (.int .i64 ttl)).setIfInBounds 22 (.int .i64 sz))) from fun V g hg => by
    have h9 := store_pk V g Z (((((((((((Z.setIfInBounds 1 (.int .i64 pr)).setIfInBounds 2 (.bool false)).setIfInBounds 3 (.int .u64 0)).setIfInBounds 4 (.int .u64 sl)).setIfInBounds 5 (.bool false)).setIfInBounds 6 (.int .u64 0)).setIfInBounds 7 (.int .u64 dl)).setIfInBounds 8 (.int .i64 0)).setIfInBounds 9 (.int .i64 0)).setIfInBounds 10 (.int .i64 ttl)).setIfInBounds 22 (.int .i64 sz)) hg ZS.out (by rw [HY.out]; rfl) (by rw [HY.out]; simp [Value.oneCell'])
    simpa only [Array.toList_setIfInBounds] using h9)
  have YS := Lib.hid (show ((((((((((((Z.setIfInBounds 1 (.int .i64 pr)).setIfInBounds 2 (.bool false)).setIfInBounds 3 (.int .u64 0)).setIfInBounds 4 (.int .u64 sl)).setIfInBounds 5 (.bool false)).setIfInBounds 6 (.int .u64 0)).setIfInBounds 7 (.int .u64 dl)).setIfInBounds 8 (.int .i64 0)).setIfInBounds 9 (.int .i64 0)).setIfInBounds 10 (.int .i64 ttl)).setIfInBounds 22 (.int .i64 sz))).size = 23 from by rw [HY.out]; rfl)
  clear hsz b2 b4 b5
  go_upto_region 7 with fail
  have A1 := Lib.hid (show Below w3.heap.size w3 w3.drew from (Below.refl _ _).drew)
  go_region_held3 (fun V => V.cell? ⟨h, 0, none⟩ = some (.int .i64 tos) ∧ V.cell? ⟨h, 1, none⟩ = some (.int .i64 id) ∧ V.cell? ⟨h, 2, none⟩ = some (.bool df) ∧ V.cell? ⟨h, 3, none⟩ = some (.bool mf) ∧ V.cell? ⟨h, 4, none⟩ = some (.int .i64 fr) ∧ V.cell? ⟨h, 5, none⟩ = some (.int .i64 ttl) ∧ V.cell? ⟨h, 6, none⟩ = some (.int .i64 pr) ∧ V.cell? ⟨h, 7, none⟩ = some (.bool false) ∧ V.cell? ⟨h, 8, none⟩ = some (.int .u64 0) ∧ V.cell? ⟨h, 9, none⟩ = some (.int .u64 sl) ∧ V.cell? ⟨h, 10, none⟩ = some (.bool false) ∧ V.cell? ⟨h, 11, none⟩ = some (.int .u64 0) ∧ V.cell? ⟨h, 12, none⟩ = some (.int .u64 dl) ∧ V.cell? ⟨h, 13, none⟩ = some (.slice AO no co)) (first | with_reducible assumption | with_reducible exact HS0.out | with_reducible exact HS5.out | with_reducible exact HS6.out | with_reducible exact HS7.out) (first
    | (go_at_call 80; (with_reducible refine (HLN.out _ (by with_reducible exact A1.out)).mono ?_); rintro o w5 ⟨rfl, hb5⟩; have O5 := Lib.hid (show Below w3.heap.size w3 w5 from by with_reducible exact below_dr hb5); have HS5 := Lib.hid (HSF.out w5 O5.out); clear hb5)
    | (go_at_call 83; (with_reducible refine (HPS.out _).mono ?_); rintro o w6 ⟨hb6, A6, n6, c6, rfl, hsl6, _⟩; have O6 := Lib.hid (O5.out.trans (hb6.mono O5.out.size)); have HS6 := Lib.hid (HSF.out w6 O6.out); have KQ6 := Lib.hid (KQ3.out.below O6.out KQ3.out.lt); have SP6 := Lib.hid hsl6; have KH6 := Lib.hid (KH3.out.below O6.out KH3.out.lt); have ST1 := HST.out w6 q KQ6.out; have ON := Lib.hid (show OnlyG q w6 (w6.setRow q (((((((((((Z.setIfInBounds 1 (.int .i64 pr)).setIfInBounds 2 (.bool false)).setIfInBounds 3 (.int .u64 0)).setIfInBounds 4 (.int .u64 sl)).setIfInBounds 5 (.bool false)).setIfInBounds 6 (.int .u64 0)).setIfInBounds 7 (.int .u64 dl)).setIfInBounds 8 (.int .i64 0)).setIfInBounds 9 (.int .i64 0)).setIfInBounds 10 (.int .i64 ttl)).setIfInBounds 22 (.int .i64 sz))) from onlyRow _); have KHN := Lib.hid (ON.out.blk KH6.out (Nat.ne_of_gt QH.out)); have HS7 := Lib.hid (show (w6.setRow q (((((((((((Z.setIfInBounds 1 (.int .i64 pr)).setIfInBounds 2 (.bool false)).setIfInBounds 3 (.int .u64 0)).setIfInBounds 4 (.int .u64 sl)).setIfInBounds 5 (.bool false)).setIfInBounds 6 (.int .u64 0)).setIfInBounds 7 (.int .u64 dl)).setIfInBounds 8 (.int .i64 0)).setIfInBounds 9 (.int .i64 0)).setIfInBounds 10 (.int .i64 ttl)).setIfInBounds 22 (.int .i64 sz))).cell? ⟨h, 0, none⟩ = some (.int .i64 tos) ∧ (w6.setRow q (((((((((((Z.setIfInBounds 1 (.int .i64 pr)).setIfInBounds 2 (.bool false)).setIfInBounds 3 (.int .u64 0)).setIfInBounds 4 (.int .u64 sl)).setIfInBounds 5 (.bool false)).setIfInBounds 6 (.int .u64 0)).setIfInBounds 7 (.int .u64 dl)).setIfInBounds 8 (.int .i64 0)).setIfInBounds 9 (.int .i64 0)).setIfInBounds 10 (.int .i64 ttl)).setIfInBounds 22 (.int .i64 sz))).cell? ⟨h, 1, none⟩ = some (.int .i64 id) ∧ (w6.setRow q (((((((((((Z.setIfInBounds 1 (.int .i64 pr)).setIfInBounds 2 (.bool false)).setIfInBounds 3 (.int .u64 0)).setIfInBounds 4 (.int .u64 sl)).setIfInBounds 5 (.bool false)).setIfInBounds 6 (.int .u64 0)).setIfInBounds 7 (.int .u64 dl)).setIfInBounds 8 (.int .i64 0)).setIfInBounds 9 (.int .i64 0)).setIfInBounds 10 (.int .i64 ttl)).setIfInBounds 22 (.int .i64 sz))).cell? ⟨h, 2, none⟩ = some (.bool df) ∧ (w6.setRow q (((((((((((Z.setIfInBounds 1 (.int .i64 pr)).setIfInBounds 2 (.bool false)).setIfInBounds 3 (.int .u64 0)).setIfInBounds 4 (.int .u64 sl)).setIfInBounds 5 (.bool false)).setIfInBounds 6 (.int .u64 0)).setIfInBounds 7 (.int .u64 dl)).setIfInBounds 8 (.int .i64 0)).setIfInBounds 9 (.int .i64 0)).setIfInBounds 10 (.int .i64 ttl)).setIfInBounds 22 (.int .i64 sz))).cell? ⟨h, 3, none⟩ = some (.bool mf) ∧ (w6.setRow q (((((((((((Z.setIfInBounds 1 (.int .i64 pr)).setIfInBounds 2 (.bool false)).setIfInBounds 3 (.int .u64 0)).setIfInBounds 4 (.int .u64 sl)).setIfInBounds 5 (.bool false)).setIfInBounds 6 (.int .u64 0)).setIfInBounds 7 (.int .u64 dl)).setIfInBounds 8 (.int .i64 0)).setIfInBounds 9 (.int .i64 0)).setIfInBounds 10 (.int .i64 ttl)).setIfInBounds 22 (.int .i64 sz))).cell? ⟨h, 4, none⟩ = some (.int .i64 fr) ∧ (w6.setRow q (((((((((((Z.setIfInBounds 1 (.int .i64 pr)).setIfInBounds 2 (.bool false)).setIfInBounds 3 (.int .u64 0)).setIfInBounds 4 (.int .u64 sl)).setIfInBounds 5 (.bool false)).setIfInBounds 6 (.int .u64 0)).setIfInBounds 7 (.int .u64 dl)).setIfInBounds 8 (.int .i64 0)).setIfInBounds 9 (.int .i64 0)).setIfInBounds 10 (.int .i64 ttl)).setIfInBounds 22 (.int .i64 sz))).cell? ⟨h, 5, none⟩ = some (.int .i64 ttl) ∧ (w6.setRow q (((((((((((Z.setIfInBounds 1 (.int .i64 pr)).setIfInBounds 2 (.bool false)).setIfInBounds 3 (.int .u64 0)).setIfInBounds 4 (.int .u64 sl)).setIfInBounds 5 (.bool false)).setIfInBounds 6 (.int .u64 0)).setIfInBounds 7 (.int .u64 dl)).setIfInBounds 8 (.int .i64 0)).setIfInBounds 9 (.int .i64 0)).setIfInBounds 10 (.int .i64 ttl)).setIfInBounds 22 (.int .i64 sz))).cell? ⟨h, 6, none⟩ = some (.int .i64 pr) ∧ (w6.setRow q (((((((((((Z.setIfInBounds 1 (.int .i64 pr)).setIfInBounds 2 (.bool false)).setIfInBounds 3 (.int .u64 0)).setIfInBounds 4 (.int .u64 sl)).setIfInBounds 5 (.bool false)).setIfInBounds 6 (.int .u64 0)).setIfInBounds 7 (.int .u64 dl)).setIfInBounds 8 (.int .i64 0)).setIfInBounds 9 (.int .i64 0)).setIfInBounds 10 (.int .i64 ttl)).setIfInBounds 22 (.int .i64 sz))).cell? ⟨h, 7, none⟩ = some (.bool false) ∧ (w6.setRow q (((((((((((Z.setIfInBounds 1 (.int .i64 pr)).setIfInBounds 2 (.bool false)).setIfInBounds 3 (.int .u64 0)).setIfInBounds 4 (.int .u64 sl)).setIfInBounds 5 (.bool false)).setIfInBounds 6 (.int .u64 0)).setIfInBounds 7 (.int .u64 dl)).setIfInBounds 8 (.int .i64 0)).setIfInBounds 9 (.int .i64 0)).setIfInBounds 10 (.int .i64 ttl)).setIfInBounds 22 (.int .i64 sz))).cell? ⟨h, 8, none⟩ = some (.int .u64 0) ∧ (w6.setRow q (((((((((((Z.setIfInBounds 1 (.int .i64 pr)).setIfInBounds 2 (.bool false)).setIfInBounds 3 (.int .u64 0)).setIfInBounds 4 (.int .u64 sl)).setIfInBounds 5 (.bool false)).setIfInBounds 6 (.int .u64 0)).setIfInBounds 7 (.int .u64 dl)).setIfInBounds 8 (.int .i64 0)).setIfInBounds 9 (.int .i64 0)).setIfInBounds 10 (.int .i64 ttl)).setIfInBounds 22 (.int .i64 sz))).cell? ⟨h, 9, none⟩ = some (.int .u64 sl) ∧ (w6.setRow q (((((((((((Z.setIfInBounds 1 (.int .i64 pr)).setIfInBounds 2 (.bool false)).setIfInBounds 3 (.int .u64 0)).setIfInBounds 4 (.int .u64 sl)).setIfInBounds 5 (.bool false)).setIfInBounds 6 (.int .u64 0)).setIfInBounds 7 (.int .u64 dl)).setIfInBounds 8 (.int .i64 0)).setIfInBounds 9 (.int .i64 0)).setIfInBounds 10 (.int .i64 ttl)).setIfInBounds 22 (.int .i64 sz))).cell? ⟨h, 10, none⟩ = some (.bool false) ∧ (w6.setRow q (((((((((((Z.setIfInBounds 1 (.int .i64 pr)).setIfInBounds 2 (.bool false)).setIfInBounds 3 (.int .u64 0)).setIfInBounds 4 (.int .u64 sl)).setIfInBounds 5 (.bool false)).setIfInBounds 6 (.int .u64 0)).setIfInBounds 7 (.int .u64 dl)).setIfInBounds 8 (.int .i64 0)).setIfInBounds 9 (.int .i64 0)).setIfInBounds 10 (.int .i64 ttl)).setIfInBounds 22 (.int .i64 sz))).cell? ⟨h, 11, none⟩ = some (.int .u64 0) ∧ (w6.setRow q (((((((((((Z.setIfInBounds 1 (.int .i64 pr)).setIfInBounds 2 (.bool false)).setIfInBounds 3 (.int .u64 0)).setIfInBounds 4 (.int .u64 sl)).setIfInBounds 5 (.bool false)).setIfInBounds 6 (.int .u64 0)).setIfInBounds 7 (.int .u64 dl)).setIfInBounds 8 (.int .i64 0)).setIfInBounds 9 (.int .i64 0)).setIfInBounds 10 (.int .i64 ttl)).setIfInBounds 22 (.int .i64 sz))).cell? ⟨h, 12, none⟩ = some (.int .u64 dl) ∧ (w6.setRow q (((((((((((Z.setIfInBounds 1 (.int .i64 pr)).setIfInBounds 2 (.bool false)).setIfInBounds 3 (.int .u64 0)).setIfInBounds 4 (.int .u64 sl)).setIfInBounds 5 (.bool false)).setIfInBounds 6 (.int .u64 0)).setIfInBounds 7 (.int .u64 dl)).setIfInBounds 8 (.int .i64 0)).setIfInBounds 9 (.int .i64 0)).setIfInBounds 10 (.int .i64 ttl)).setIfInBounds 22 (.int .i64 sz))).cell? ⟨h, 13, none⟩ = some (.slice AO no co) from ⟨KHN.out.cell 0, KHN.out.cell 1, KHN.out.cell 2, KHN.out.cell 3, KHN.out.cell 4, KHN.out.cell 5, KHN.out.cell 6, KHN.out.cell 7, KHN.out.cell 8, KHN.out.cell 9, KHN.out.cell 10, KHN.out.cell 11, KHN.out.cell 12, KHN.out.cell 13⟩); clear hb6 hsl6))
  have ZN := Lib.hid (show ∀ (i : Nat) (x : Int), Z[i]? ≠ some (.int .u8 x) from by rw [HZ.out]; exact zero_no8)
  have SL6 := Lib.hid ((SL3.out.below O6.out).keep KQ6.out ZN.out ON.out)
  have SP7 := Lib.hid (SP6.out.keep KQ6.out ZN.out ON.out)
  have B7 := Lib.hid (ON.out.from (B3.out.trans (O6.out.mono B3.out.size)) (by have := EQ.out; omega))
  have KQ7 := Lib.hid (show Blk (w6.setRow q (((((((((((Z.setIfInBounds 1 (.int .i64 pr)).setIfInBounds 2 (.bool false)).setIfInBounds 3 (.int .u64 0)).setIfInBounds 4 (.int .u64 sl)).setIfInBounds 5 (.bool false)).setIfInBounds 6 (.int .u64 0)).setIfInBounds 7 (.int .u64 dl)).setIfInBounds 8 (.int .i64 0)).setIfInBounds 9 (.int .i64 0)).setIfInBounds 10 (.int .i64 ttl)).setIfInBounds 22 (.int .i64 sz))) q 58 (((((((((((Z.setIfInBounds 1 (.int .i64 pr)).setIfInBounds 2 (.bool false)).setIfInBounds 3 (.int .u64 0)).setIfInBounds 4 (.int .u64 sl)).setIfInBounds 5 (.bool false)).setIfInBounds 6 (.int .u64 0)).setIfInBounds 7 (.int .u64 dl)).setIfInBounds 8 (.int .i64 0)).setIfInBounds 9 (.int .i64 0)).setIfInBounds 10 (.int .i64 ttl)).setIfInBounds 22 (.int .i64 sz)) from blkRow KQ6.out _)
  clear ST1
  go_wp2_with fail
  refine bodyPost_ret (results_o4 rfl _ _ q _ rfl KQ7.out YS.out) rfl ?_
  exact ⟨B7.out, AR, cr, A6, n6, c6, by rw [HY.out]; rfl, SL6.out, SP7.out⟩
end Go.Proofs.Ytndekicblbpkjaa.pktI
