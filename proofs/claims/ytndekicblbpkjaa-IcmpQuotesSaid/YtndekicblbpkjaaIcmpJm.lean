/- 5 texts in one. -/
import Derived.Test.YtndekicblbpkjaaSixF
import Derived.Deep.RegionHeld3
import Derived.Deep.DeepCutAuto
import Derived.Test.YtndekicblbpkjaaIcmpA
import Derived.Deep.CutBlock
import Derived.Test.YtndekicblbpkjaaIcmpD
import Derived.Test.YtndekicblbpkjaaFourB
import Derived.Test.YtndekicblbpkjaaSixT
/- Layer 12: what a message quotes: the two ways. -/
namespace Go.Proofs.Ytndekicblbpkjaa.icmpH
open Go.ChangeShapes Go.WideShapes Go.ChangeAt Go.RowKit
open Go.Proofs.Ytndekicblbpkjaa.base Go.Proofs.Ytndekicblbpkjaa.octA Go.Proofs.Ytndekicblbpkjaa.octB Go.Proofs.Ytndekicblbpkjaa.octC Go.Proofs.Ytndekicblbpkjaa.octF Go.Proofs.Ytndekicblbpkjaa.octK Go.Proofs.Ytndekicblbpkjaa.net Go.Proofs.Ytndekicblbpkjaa.rdrA Go.Proofs.Ytndekicblbpkjaa.rdrG Go.Proofs.Ytndekicblbpkjaa.sumA Go.Proofs.Ytndekicblbpkjaa.sumB Go.Proofs.Ytndekicblbpkjaa.udpA Go.Proofs.Ytndekicblbpkjaa.tcpC Go.Proofs.Ytndekicblbpkjaa.sixW Go.Proofs.Ytndekicblbpkjaa.sixM Go.Proofs.Ytndekicblbpkjaa.sixA Go.Proofs.Ytndekicblbpkjaa.sixB Go.Proofs.Ytndekicblbpkjaa.sixC Go.Proofs.Ytndekicblbpkjaa.sixD Go.Proofs.Ytndekicblbpkjaa.sixE Go.Proofs.Ytndekicblbpkjaa.sixF
set_option linter.unusedVariables false

theorem tstore (V : World) (R : Nat) (v0 v1 v2 v3 v4 v5 v6 v7 v8 u0 u1 u2 u3 u4 u5 u6 u7 u8 : Value) (h : Blk V R 48 #[u0, u1, u2, u3, u4, u5, u6, u7, u8]) : Blk (((((((((V.setCell ⟨R, 0, none⟩ v0).setCell ⟨R, 1, none⟩ v1).setCell ⟨R, 2, none⟩ v2).setCell ⟨R, 3, none⟩ v3).setCell ⟨R, 4, none⟩ v4).setCell ⟨R, 5, none⟩ v5).setCell ⟨R, 6, none⟩ v6).setCell ⟨R, 7, none⟩ v7).setCell ⟨R, 8, none⟩ v8) R 48 #[v0, v1, v2, v3, v4, v5, v6, v7, v8] := by
  have h1 : Blk (V.setCell ⟨R, 0, none⟩ v0) R 48 #[v0, u1, u2, u3, u4, u5, u6, u7, u8] := h.set_ 0 v0
  have h2 : Blk ((V.setCell ⟨R, 0, none⟩ v0).setCell ⟨R, 1, none⟩ v1) R 48 #[v0, v1, u2, u3, u4, u5, u6, u7, u8] := h1.set_ 1 v1
  have h3 : Blk (((V.setCell ⟨R, 0, none⟩ v0).setCell ⟨R, 1, none⟩ v1).setCell ⟨R, 2, none⟩ v2) R 48 #[v0, v1, v2, u3, u4, u5, u6, u7, u8] := h2.set_ 2 v2
  have h4 : Blk ((((V.setCell ⟨R, 0, none⟩ v0).setCell ⟨R, 1, none⟩ v1).setCell ⟨R, 2, none⟩ v2).setCell ⟨R, 3, none⟩ v3) R 48 #[v0, v1, v2, v3, u4, u5, u6, u7, u8] := h3.set_ 3 v3
  have h5 : Blk (((((V.setCell ⟨R, 0, none⟩ v0).setCell ⟨R, 1, none⟩ v1).setCell ⟨R, 2, none⟩ v2).setCell ⟨R, 3, none⟩ v3).setCell ⟨R, 4, none⟩ v4) R 48 #[v0, v1, v2, v3, v4, u5, u6, u7, u8] := h4.set_ 4 v4
  have h6 : Blk ((((((V.setCell ⟨R, 0, none⟩ v0).setCell ⟨R, 1, none⟩ v1).setCell ⟨R, 2, none⟩ v2).setCell ⟨R, 3, none⟩ v3).setCell ⟨R, 4, none⟩ v4).setCell ⟨R, 5, none⟩ v5) R 48 #[v0, v1, v2, v3, v4, v5, u6, u7, u8] := h5.set_ 5 v5
  have h7 : Blk (((((((V.setCell ⟨R, 0, none⟩ v0).setCell ⟨R, 1, none⟩ v1).setCell ⟨R, 2, none⟩ v2).setCell ⟨R, 3, none⟩ v3).setCell ⟨R, 4, none⟩ v4).setCell ⟨R, 5, none⟩ v5).setCell ⟨R, 6, none⟩ v6) R 48 #[v0, v1, v2, v3, v4, v5, v6, u7, u8] := h6.set_ 6 v6
  have h8 : Blk ((((((((V.setCell ⟨R, 0, none⟩ v0).setCell ⟨R, 1, none⟩ v1).setCell ⟨R, 2, none⟩ v2).setCell ⟨R, 3, none⟩ v3).setCell ⟨R, 4, none⟩ v4).setCell ⟨R, 5, none⟩ v5).setCell ⟨R, 6, none⟩ v6).setCell ⟨R, 7, none⟩ v7) R 48 #[v0, v1, v2, v3, v4, v5, v6, v7, u8] := h7.set_ 7 v7
  have h9 : Blk (((((((((V.setCell ⟨R, 0, none⟩ v0).setCell ⟨R, 1, none⟩ v1).setCell ⟨R, 2, none⟩ v2).setCell ⟨R, 3, none⟩ v3).setCell ⟨R, 4, none⟩ v4).setCell ⟨R, 5, none⟩ v5).setCell ⟨R, 6, none⟩ v6).setCell ⟨R, 7, none⟩ v7).setCell ⟨R, 8, none⟩ v8) R 48 #[v0, v1, v2, v3, v4, v5, v6, v7, v8] := h8.set_ 8 v8
  exact h9
theorem tfar (V : World) (R H : Nat) (v0 v1 v2 v3 v4 v5 v6 v7 v8 : Value) (T : TypeId) (cs : Array Value) (hne : H ≠ R) (h : Blk V H T cs) : Blk (((((((((V.setCell ⟨R, 0, none⟩ v0).setCell ⟨R, 1, none⟩ v1).setCell ⟨R, 2, none⟩ v2).setCell ⟨R, 3, none⟩ v3).setCell ⟨R, 4, none⟩ v4).setCell ⟨R, 5, none⟩ v5).setCell ⟨R, 6, none⟩ v6).setCell ⟨R, 7, none⟩ v7).setCell ⟨R, 8, none⟩ v8) H T cs := by
  have h1 : Blk (V.setCell ⟨R, 0, none⟩ v0) H T cs := h.far (p := ⟨R, 0, none⟩) hne v0
  have h2 : Blk ((V.setCell ⟨R, 0, none⟩ v0).setCell ⟨R, 1, none⟩ v1) H T cs := h1.far (p := ⟨R, 1, none⟩) hne v1
  have h3 : Blk (((V.setCell ⟨R, 0, none⟩ v0).setCell ⟨R, 1, none⟩ v1).setCell ⟨R, 2, none⟩ v2) H T cs := h2.far (p := ⟨R, 2, none⟩) hne v2
  have h4 : Blk ((((V.setCell ⟨R, 0, none⟩ v0).setCell ⟨R, 1, none⟩ v1).setCell ⟨R, 2, none⟩ v2).setCell ⟨R, 3, none⟩ v3) H T cs := h3.far (p := ⟨R, 3, none⟩) hne v3
  have h5 : Blk (((((V.setCell ⟨R, 0, none⟩ v0).setCell ⟨R, 1, none⟩ v1).setCell ⟨R, 2, none⟩ v2).setCell ⟨R, 3, none⟩ v3).setCell ⟨R, 4, none⟩ v4) H T cs := h4.far (p := ⟨R, 4, none⟩) hne v4
  have h6 : Blk ((((((V.setCell ⟨R, 0, none⟩ v0).setCell ⟨R, 1, none⟩ v1).setCell ⟨R, 2, none⟩ v2).setCell ⟨R, 3, none⟩ v3).setCell ⟨R, 4, none⟩ v4).setCell ⟨R, 5, none⟩ v5) H T cs := h5.far (p := ⟨R, 5, none⟩) hne v5
  have h7 : Blk (((((((V.setCell ⟨R, 0, none⟩ v0).setCell ⟨R, 1, none⟩ v1).setCell ⟨R, 2, none⟩ v2).setCell ⟨R, 3, none⟩ v3).setCell ⟨R, 4, none⟩ v4).setCell ⟨R, 5, none⟩ v5).setCell ⟨R, 6, none⟩ v6) H T cs := h6.far (p := ⟨R, 6, none⟩) hne v6
  have h8 : Blk ((((((((V.setCell ⟨R, 0, none⟩ v0).setCell ⟨R, 1, none⟩ v1).setCell ⟨R, 2, none⟩ v2).setCell ⟨R, 3, none⟩ v3).setCell ⟨R, 4, none⟩ v4).setCell ⟨R, 5, none⟩ v5).setCell ⟨R, 6, none⟩ v6).setCell ⟨R, 7, none⟩ v7) H T cs := h7.far (p := ⟨R, 7, none⟩) hne v7
  have h9 : Blk (((((((((V.setCell ⟨R, 0, none⟩ v0).setCell ⟨R, 1, none⟩ v1).setCell ⟨R, 2, none⟩ v2).setCell ⟨R, 3, none⟩ v3).setCell ⟨R, 4, none⟩ v4).setCell ⟨R, 5, none⟩ v5).setCell ⟨R, 6, none⟩ v6).setCell ⟨R, 7, none⟩ v7).setCell ⟨R, 8, none⟩ v8) H T cs := h8.far (p := ⟨R, 8, none⟩) hne v8
  exact h9
theorem tonly (V : World) (R : Nat) (v0 v1 v2 v3 v4 v5 v6 v7 v8 : Value) : OnlyG R V (((((((((V.setCell ⟨R, 0, none⟩ v0).setCell ⟨R, 1, none⟩ v1).setCell ⟨R, 2, none⟩ v2).setCell ⟨R, 3, none⟩ v3).setCell ⟨R, 4, none⟩ v4).setCell ⟨R, 5, none⟩ v5).setCell ⟨R, 6, none⟩ v6).setCell ⟨R, 7, none⟩ v7).setCell ⟨R, 8, none⟩ v8) := by
  have h := OnlyG.refl R V
  have h1 : OnlyG R V (V.setCell ⟨R, 0, none⟩ v0) := h.set 0 v0
  have h2 : OnlyG R V ((V.setCell ⟨R, 0, none⟩ v0).setCell ⟨R, 1, none⟩ v1) := h1.set 1 v1
  have h3 : OnlyG R V (((V.setCell ⟨R, 0, none⟩ v0).setCell ⟨R, 1, none⟩ v1).setCell ⟨R, 2, none⟩ v2) := h2.set 2 v2
  have h4 : OnlyG R V ((((V.setCell ⟨R, 0, none⟩ v0).setCell ⟨R, 1, none⟩ v1).setCell ⟨R, 2, none⟩ v2).setCell ⟨R, 3, none⟩ v3) := h3.set 3 v3
  have h5 : OnlyG R V (((((V.setCell ⟨R, 0, none⟩ v0).setCell ⟨R, 1, none⟩ v1).setCell ⟨R, 2, none⟩ v2).setCell ⟨R, 3, none⟩ v3).setCell ⟨R, 4, none⟩ v4) := h4.set 4 v4
  have h6 : OnlyG R V ((((((V.setCell ⟨R, 0, none⟩ v0).setCell ⟨R, 1, none⟩ v1).setCell ⟨R, 2, none⟩ v2).setCell ⟨R, 3, none⟩ v3).setCell ⟨R, 4, none⟩ v4).setCell ⟨R, 5, none⟩ v5) := h5.set 5 v5
  have h7 : OnlyG R V (((((((V.setCell ⟨R, 0, none⟩ v0).setCell ⟨R, 1, none⟩ v1).setCell ⟨R, 2, none⟩ v2).setCell ⟨R, 3, none⟩ v3).setCell ⟨R, 4, none⟩ v4).setCell ⟨R, 5, none⟩ v5).setCell ⟨R, 6, none⟩ v6) := h6.set 6 v6
  have h8 : OnlyG R V ((((((((V.setCell ⟨R, 0, none⟩ v0).setCell ⟨R, 1, none⟩ v1).setCell ⟨R, 2, none⟩ v2).setCell ⟨R, 3, none⟩ v3).setCell ⟨R, 4, none⟩ v4).setCell ⟨R, 5, none⟩ v5).setCell ⟨R, 6, none⟩ v6).setCell ⟨R, 7, none⟩ v7) := h7.set 7 v7
  have h9 : OnlyG R V (((((((((V.setCell ⟨R, 0, none⟩ v0).setCell ⟨R, 1, none⟩ v1).setCell ⟨R, 2, none⟩ v2).setCell ⟨R, 3, none⟩ v3).setCell ⟨R, 4, none⟩ v4).setCell ⟨R, 5, none⟩ v5).setCell ⟨R, 6, none⟩ v6).setCell ⟨R, 7, none⟩ v7).setCell ⟨R, 8, none⟩ v8) := h8.set 8 v8
  exact h9
/-- What four.Quote tells. -/
def Q4 (f fr pr : Int) (s6 : Bool) (sh sl : Int) (d6 : Bool) (dh dl : Int) (r : List Int) (w : World) (o : Ending) (w' : World) : Prop := Below w.heap.size w w' ∧ ∃ (tos id : Int) (df mf : Bool) (ttl : Int) (AO : Option Addr) (no co : Nat) (AR : Option Addr) (nr cr : Nat), o = .returned (.tuple #[.agg #[.int .i64 tos, .int .i64 id, .bool df, .bool mf, .int .i64 fr, .int .i64 ttl, .int .i64 pr, .bool s6, .int .u64 sh, .int .u64 sl, .bool d6, .int .u64 dh, .int .u64 dl, .slice AO no co], .slice AR nr cr, .int .i64 f]) ∧ nr = r.length ∧ w'.ownsRow w.heap.size 5 1 (.slice AR nr cr) nr (r.map (.int .u8))
/-- What six.Quote tells. -/
def Q6 (f fr pr : Int) (s6 : Bool) (sh sl : Int) (d6 : Bool) (dh dl : Int) (r : List Int) (w : World) (o : Ending) (w' : World) : Prop := Below w.heap.size w w' ∧ ∃ (cls lab hop : Int) (L : List Xt) (A : Option Addr) (n c : Nat) (AR : Option Addr) (nr cr : Nat), o = .returned (.tuple #[.agg #[.int .i64 cls, .int .i64 lab, .int .i64 hop, .bool s6, .int .u64 sh, .int .u64 sl, .bool d6, .int .u64 dh, .int .u64 dl, .slice A n c, .int .i64 pr], .slice AR nr cr, .int .i64 f]) ∧ L.length = n ∧ n ≤ 1000000 ∧ GotX w' w.heap.size (.slice A n c) L ∧ (∀ e ∈ L, U8 e.d) ∧ fr = lies (L.map Xt.re) / 8 ∧ nr = r.length ∧ w'.ownsRow w.heap.size 5 1 (.slice AR nr cr) nr (r.map (.int .u8))
/-- What quote4 and quote6 tell. -/
def QT (f fr pr : Int) (s6 : Bool) (sh sl : Int) (d6 : Bool) (dh dl : Int) (r : List Int) (w : World) (o : Ending) (w' : World) : Prop := Below w.heap.size w w' ∧ ∃ (AR : Option Addr) (nr cr : Nat), o = .returned (.tuple #[.agg #[.int .i64 pr, .bool s6, .int .u64 sh, .int .u64 sl, .bool d6, .int .u64 dh, .int .u64 dl, .int .i64 0, .int .i64 0], .int .i64 fr, .slice AR nr cr, .int .i64 f]) ∧ nr = r.length ∧ w'.ownsRow w.heap.size 5 1 (.slice AR nr cr) nr (r.map (.int .u8))
theorem results_quote {fn : Func} {p u v x : Tmp} (h : fn.results = #[.cell p 48, .tmp u, .tmp v, .tmp x]) (tmps : Array Value) (w : World) (g : Nat) (cs : Array Value) (hp : tmps.getD p undef = .pointer (some ⟨g, 0, none⟩)) (hg : Blk w g 48 cs) (hs : cs.size = 9) :
    (results fn tmps).run Try.prog w = .ok (.tuple #[.agg cs, tmps.getD u undef, tmps.getD v undef, tmps.getD x undef]) w := by
  have e : (results fn tmps).run Try.prog w = ((asAddr (tmps.getD p undef)).run Try.prog w).andThen fun a w1 => ((loadVar 48 a).run Try.prog w1).andThen fun y w2 => .ok (.tuple #[y, tmps.getD u undef, tmps.getD v undef, tmps.getD x undef]) w2 := by
    simp only [results, h]
    simp [Sem.run_bind, Result.andThen]
  rw [e, hp]
  simp only [asAddr, Sem.run_pure, Result.andThen_ok]
  rw [run_loadVar_row w g 48 48 cs (0, 0) _ hg Try.underlying48 rfl (by rw [hs]; kernel_rfl)]
  rfl
set_option maxHeartbeats 4000000 in
set_option maxRecDepth 100000 in
theorem quote4_any (vb : Value) (f fr pr : Int) (s6 : Bool) (sh sl : Int) (d6 : Bool) (dh dl : Int) (r : List Int) (w : World) (HQ : Hid (∀ V, Below w.heap.size w V → Calls Try.prog 26 #[vb] V (Q4 f fr pr s6 sh sl d6 dh dl r V))) :
    Calls Try.prog 50 #[vb] w (QT f fr pr s6 sh sl d6 dh dl r w) := by
  obtain ⟨w1, hw1⟩ : ∃ w1, w1 = w.alloc (.cells #[.int .i64 0, .bool false, .int .u64 0, .int .u64 0, .bool false, .int .u64 0, .int .u64 0, .int .i64 0, .int .i64 0] 48) := ⟨_, rfl⟩
  have E1 := Lib.hid hw1
  have B1 := Lib.hid (show Below w.heap.size w w1 from by rw [hw1]; exact (Below.refl _ _).alloc (Nat.le_refl _) _)
  have K1 := Lib.hid (show Blk w1 w.heap.size 48 #[.int .i64 0, .bool false, .int .u64 0, .int .u64 0, .bool false, .int .u64 0, .int .u64 0, .int .i64 0, .int .i64 0] from by rw [hw1]; exact Blk.new w _ _)
  have SZ1 := Lib.hid (show w1.heap.size = w.heap.size + 1 from by rw [hw1]; simp)
  clear hw1
  go_enter Try.func50, Try.ntmps50
  go_upto_region 1 with fail
  rw [← E1.out]
  go_wp2_with fail
  refine (HQ.out _ B1.out).mono ?_
  rintro o w2 ⟨hb, tos, id, df, mf, ttl, AO, no, co, AR, nr, cr, rfl, hnr, hrow⟩
  obtain ⟨w3, hw3⟩ : ∃ w3, w3 = w2.alloc (.cells #[.int .i64 tos, .int .i64 id, .bool df, .bool mf, .int .i64 fr, .int .i64 ttl, .int .i64 pr, .bool s6, .int .u64 sh, .int .u64 sl, .bool d6, .int .u64 dh, .int .u64 dl, .slice AO no co] 53) := ⟨_, rfl⟩
  have E3 := Lib.hid hw3
  have B23 := Lib.hid (show Below w2.heap.size w2 w3 from by rw [hw3]; exact (Below.refl _ _).alloc (Nat.le_refl _) _)
  have B13 := Lib.hid (show Below w1.heap.size w1 w3 from hb.trans (B23.out.mono hb.size))
  have K3 := Lib.hid (show Blk w3 w2.heap.size 53 #[.int .i64 tos, .int .i64 id, .bool df, .bool mf, .int .i64 fr, .int .i64 ttl, .int .i64 pr, .bool s6, .int .u64 sh, .int .u64 sl, .bool d6, .int .u64 dh, .int .u64 dl, .slice AO no co] from by rw [hw3]; exact Blk.new w2 _ _)
  have K13 := Lib.hid (K1.out.below B13.out K1.out.lt)
  have HNR := Lib.hid hnr
  have HRW := Lib.hid (own_below2 hrow B23.out)
  have HNE := Lib.hid (show w.heap.size ≠ w2.heap.size from by have := hb.size; have := SZ1.out; omega)
  clear hw3 hb hnr hrow
  go_upto_region 2 with fail
  rw [← E3.out]
  have KD := Lib.hid (K3.out.below (Below.refl _ _).drew K3.out.lt)
  have KF := Lib.hid (K13.out.below (Below.refl _ _).drew K13.out.lt)
  have HS := Lib.hid (show w3.drew.cell? ⟨w2.heap.size, 0, none⟩ = some (.int .i64 tos) ∧ w3.drew.cell? ⟨w2.heap.size, 1, none⟩ = some (.int .i64 id) ∧ w3.drew.cell? ⟨w2.heap.size, 2, none⟩ = some (.bool df) ∧ w3.drew.cell? ⟨w2.heap.size, 3, none⟩ = some (.bool mf) ∧ w3.drew.cell? ⟨w2.heap.size, 4, none⟩ = some (.int .i64 fr) ∧ w3.drew.cell? ⟨w2.heap.size, 5, none⟩ = some (.int .i64 ttl) ∧ w3.drew.cell? ⟨w2.heap.size, 6, none⟩ = some (.int .i64 pr) ∧ w3.drew.cell? ⟨w2.heap.size, 7, none⟩ = some (.bool s6) ∧ w3.drew.cell? ⟨w2.heap.size, 8, none⟩ = some (.int .u64 sh) ∧ w3.drew.cell? ⟨w2.heap.size, 9, none⟩ = some (.int .u64 sl) ∧ w3.drew.cell? ⟨w2.heap.size, 10, none⟩ = some (.bool d6) ∧ w3.drew.cell? ⟨w2.heap.size, 11, none⟩ = some (.int .u64 dh) ∧ w3.drew.cell? ⟨w2.heap.size, 12, none⟩ = some (.int .u64 dl) ∧ w3.drew.cell? ⟨w2.heap.size, 13, none⟩ = some (.slice AO no co) from ⟨KD.out.cell 0, KD.out.cell 1, KD.out.cell 2, KD.out.cell 3, KD.out.cell 4, KD.out.cell 5, KD.out.cell 6, KD.out.cell 7, KD.out.cell 8, KD.out.cell 9, KD.out.cell 10, KD.out.cell 11, KD.out.cell 12, KD.out.cell 13⟩)
  have z0 := K13.out.frozen 0
  have y0 := K13.out.cell 0
  have z1 := K13.out.frozen 1
  have y1 := K13.out.cell 1
  have z2 := K13.out.frozen 2
  have y2 := K13.out.cell 2
  have z3 := K13.out.frozen 3
  have y3 := K13.out.cell 3
  have z4 := K13.out.frozen 4
  have y4 := K13.out.cell 4
  have z5 := K13.out.frozen 5
  have y5 := K13.out.cell 5
  have z6 := K13.out.frozen 6
  have y6 := K13.out.cell 6
  have z7 := K13.out.frozen 7
  have y7 := K13.out.cell 7
  have z8 := K13.out.frozen 8
  have y8 := K13.out.cell 8
  have KW := Lib.hid ((tfar w3 w.heap.size w2.heap.size (.int .i64 pr) (.bool s6) (.int .u64 sh) (.int .u64 sl) (.bool d6) (.int .u64 dh) (.int .u64 dl) (.int .i64 0) (.int .i64 0) 53 #[.int .i64 tos, .int .i64 id, .bool df, .bool mf, .int .i64 fr, .int .i64 ttl, .int .i64 pr, .bool s6, .int .u64 sh, .int .u64 sl, .bool d6, .int .u64 dh, .int .u64 dl, .slice AO no co] (Ne.symm HNE.out) K3.out).below (Below.refl _ _).drew (tfar w3 w.heap.size w2.heap.size (.int .i64 pr) (.bool s6) (.int .u64 sh) (.int .u64 sl) (.bool d6) (.int .u64 dh) (.int .u64 dl) (.int .i64 0) (.int .i64 0) 53 #[.int .i64 tos, .int .i64 id, .bool df, .bool mf, .int .i64 fr, .int .i64 ttl, .int .i64 pr, .bool s6, .int .u64 sh, .int .u64 sl, .bool d6, .int .u64 dh, .int .u64 dl, .slice AO no co] (Ne.symm HNE.out) K3.out).lt)
  have HS2 := Lib.hid (show (((((((((w3.setCell ⟨w.heap.size, 0, none⟩ (.int .i64 pr)).setCell ⟨w.heap.size, 1, none⟩ (.bool s6)).setCell ⟨w.heap.size, 2, none⟩ (.int .u64 sh)).setCell ⟨w.heap.size, 3, none⟩ (.int .u64 sl)).setCell ⟨w.heap.size, 4, none⟩ (.bool d6)).setCell ⟨w.heap.size, 5, none⟩ (.int .u64 dh)).setCell ⟨w.heap.size, 6, none⟩ (.int .u64 dl)).setCell ⟨w.heap.size, 7, none⟩ (.int .i64 0)).setCell ⟨w.heap.size, 8, none⟩ (.int .i64 0)).drew.cell? ⟨w2.heap.size, 0, none⟩ = some (.int .i64 tos) ∧ (((((((((w3.setCell ⟨w.heap.size, 0, none⟩ (.int .i64 pr)).setCell ⟨w.heap.size, 1, none⟩ (.bool s6)).setCell ⟨w.heap.size, 2, none⟩ (.int .u64 sh)).setCell ⟨w.heap.size, 3, none⟩ (.int .u64 sl)).setCell ⟨w.heap.size, 4, none⟩ (.bool d6)).setCell ⟨w.heap.size, 5, none⟩ (.int .u64 dh)).setCell ⟨w.heap.size, 6, none⟩ (.int .u64 dl)).setCell ⟨w.heap.size, 7, none⟩ (.int .i64 0)).setCell ⟨w.heap.size, 8, none⟩ (.int .i64 0)).drew.cell? ⟨w2.heap.size, 1, none⟩ = some (.int .i64 id) ∧ (((((((((w3.setCell ⟨w.heap.size, 0, none⟩ (.int .i64 pr)).setCell ⟨w.heap.size, 1, none⟩ (.bool s6)).setCell ⟨w.heap.size, 2, none⟩ (.int .u64 sh)).setCell ⟨w.heap.size, 3, none⟩ (.int .u64 sl)).setCell ⟨w.heap.size, 4, none⟩ (.bool d6)).setCell ⟨w.heap.size, 5, none⟩ (.int .u64 dh)).setCell ⟨w.heap.size, 6, none⟩ (.int .u64 dl)).setCell ⟨w.heap.size, 7, none⟩ (.int .i64 0)).setCell ⟨w.heap.size, 8, none⟩ (.int .i64 0)).drew.cell? ⟨w2.heap.size, 2, none⟩ = some (.bool df) ∧ (((((((((w3.setCell ⟨w.heap.size, 0, none⟩ (.int .i64 pr)).setCell ⟨w.heap.size, 1, none⟩ (.bool s6)).setCell ⟨w.heap.size, 2, none⟩ (.int .u64 sh)).setCell ⟨w.heap.size, 3, none⟩ (.int .u64 sl)).setCell ⟨w.heap.size, 4, none⟩ (.bool d6)).setCell ⟨w.heap.size, 5, none⟩ (.int .u64 dh)).setCell ⟨w.heap.size, 6, none⟩ (.int .u64 dl)).setCell ⟨w.heap.size, 7, none⟩ (.int .i64 0)).setCell ⟨w.heap.size, 8, none⟩ (.int .i64 0)).drew.cell? ⟨w2.heap.size, 3, none⟩ = some (.bool mf) ∧ (((((((((w3.setCell ⟨w.heap.size, 0, none⟩ (.int .i64 pr)).setCell ⟨w.heap.size, 1, none⟩ (.bool s6)).setCell ⟨w.heap.size, 2, none⟩ (.int .u64 sh)).setCell ⟨w.heap.size, 3, none⟩ (.int .u64 sl)).setCell ⟨w.heap.size, 4, none⟩ (.bool d6)).setCell ⟨w.heap.size, 5, none⟩ (.int .u64 dh)).setCell ⟨w.heap.size, 6, none⟩ (.int .u64 dl)).setCell ⟨w.heap.size, 7, none⟩ (.int .i64 0)).setCell ⟨w.heap.size, 8, none⟩ (.int .i64 0)).drew.cell? ⟨w2.heap.size, 4, none⟩ = some (.int .i64 fr) ∧ (((((((((w3.setCell ⟨w.heap.size, 0, none⟩ (.int .i64 pr)).setCell ⟨w.heap.size, 1, none⟩ (.bool s6)).setCell ⟨w.heap.size, 2, none⟩ (.int .u64 sh)).setCell ⟨w.heap.size, 3, none⟩ (.int .u64 sl)).setCell ⟨w.heap.size, 4, none⟩ (.bool d6)).setCell ⟨w.heap.size, 5, none⟩ (.int .u64 dh)).setCell ⟨w.heap.size, 6, none⟩ (.int .u64 dl)).setCell ⟨w.heap.size, 7, none⟩ (.int .i64 0)).setCell ⟨w.heap.size, 8, none⟩ (.int .i64 0)).drew.cell? ⟨w2.heap.size, 5, none⟩ = some (.int .i64 ttl) ∧ (((((((((w3.setCell ⟨w.heap.size, 0, none⟩ (.int .i64 pr)).setCell ⟨w.heap.size, 1, none⟩ (.bool s6)).setCell ⟨w.heap.size, 2, none⟩ (.int .u64 sh)).setCell ⟨w.heap.size, 3, none⟩ (.int .u64 sl)).setCell ⟨w.heap.size, 4, none⟩ (.bool d6)).setCell ⟨w.heap.size, 5, none⟩ (.int .u64 dh)).setCell ⟨w.heap.size, 6, none⟩ (.int .u64 dl)).setCell ⟨w.heap.size, 7, none⟩ (.int .i64 0)).setCell ⟨w.heap.size, 8, none⟩ (.int .i64 0)).drew.cell? ⟨w2.heap.size, 6, none⟩ = some (.int .i64 pr) ∧ (((((((((w3.setCell ⟨w.heap.size, 0, none⟩ (.int .i64 pr)).setCell ⟨w.heap.size, 1, none⟩ (.bool s6)).setCell ⟨w.heap.size, 2, none⟩ (.int .u64 sh)).setCell ⟨w.heap.size, 3, none⟩ (.int .u64 sl)).setCell ⟨w.heap.size, 4, none⟩ (.bool d6)).setCell ⟨w.heap.size, 5, none⟩ (.int .u64 dh)).setCell ⟨w.heap.size, 6, none⟩ (.int .u64 dl)).setCell ⟨w.heap.size, 7, none⟩ (.int .i64 0)).setCell ⟨w.heap.size, 8, none⟩ (.int .i64 0)).drew.cell? ⟨w2.heap.size, 7, none⟩ = some (.bool s6) ∧ (((((((((w3.setCell ⟨w.heap.size, 0, none⟩ (.int .i64 pr)).setCell ⟨w.heap.size, 1, none⟩ (.bool s6)).setCell ⟨w.heap.size, 2, none⟩ (.int .u64 sh)).setCell ⟨w.heap.size, 3, none⟩ (.int .u64 sl)).setCell ⟨w.heap.size, 4, none⟩ (.bool d6)).setCell ⟨w.heap.size, 5, none⟩ (.int .u64 dh)).setCell ⟨w.heap.size, 6, none⟩ (.int .u64 dl)).setCell ⟨w.heap.size, 7, none⟩ (.int .i64 0)).setCell ⟨w.heap.size, 8, none⟩ (.int .i64 0)).drew.cell? ⟨w2.heap.size, 8, none⟩ = some (.int .u64 sh) ∧ (((((((((w3.setCell ⟨w.heap.size, 0, none⟩ (.int .i64 pr)).setCell ⟨w.heap.size, 1, none⟩ (.bool s6)).setCell ⟨w.heap.size, 2, none⟩ (.int .u64 sh)).setCell ⟨w.heap.size, 3, none⟩ (.int .u64 sl)).setCell ⟨w.heap.size, 4, none⟩ (.bool d6)).setCell ⟨w.heap.size, 5, none⟩ (.int .u64 dh)).setCell ⟨w.heap.size, 6, none⟩ (.int .u64 dl)).setCell ⟨w.heap.size, 7, none⟩ (.int .i64 0)).setCell ⟨w.heap.size, 8, none⟩ (.int .i64 0)).drew.cell? ⟨w2.heap.size, 9, none⟩ = some (.int .u64 sl) ∧ (((((((((w3.setCell ⟨w.heap.size, 0, none⟩ (.int .i64 pr)).setCell ⟨w.heap.size, 1, none⟩ (.bool s6)).setCell ⟨w.heap.size, 2, none⟩ (.int .u64 sh)).setCell ⟨w.heap.size, 3, none⟩ (.int .u64 sl)).setCell ⟨w.heap.size, 4, none⟩ (.bool d6)).setCell ⟨w.heap.size, 5, none⟩ (.int .u64 dh)).setCell ⟨w.heap.size, 6, none⟩ (.int .u64 dl)).setCell ⟨w.heap.size, 7, none⟩ (.int .i64 0)).setCell ⟨w.heap.size, 8, none⟩ (.int .i64 0)).drew.cell? ⟨w2.heap.size, 10, none⟩ = some (.bool d6) ∧ (((((((((w3.setCell ⟨w.heap.size, 0, none⟩ (.int .i64 pr)).setCell ⟨w.heap.size, 1, none⟩ (.bool s6)).setCell ⟨w.heap.size, 2, none⟩ (.int .u64 sh)).setCell ⟨w.heap.size, 3, none⟩ (.int .u64 sl)).setCell ⟨w.heap.size, 4, none⟩ (.bool d6)).setCell ⟨w.heap.size, 5, none⟩ (.int .u64 dh)).setCell ⟨w.heap.size, 6, none⟩ (.int .u64 dl)).setCell ⟨w.heap.size, 7, none⟩ (.int .i64 0)).setCell ⟨w.heap.size, 8, none⟩ (.int .i64 0)).drew.cell? ⟨w2.heap.size, 11, none⟩ = some (.int .u64 dh) ∧ (((((((((w3.setCell ⟨w.heap.size, 0, none⟩ (.int .i64 pr)).setCell ⟨w.heap.size, 1, none⟩ (.bool s6)).setCell ⟨w.heap.size, 2, none⟩ (.int .u64 sh)).setCell ⟨w.heap.size, 3, none⟩ (.int .u64 sl)).setCell ⟨w.heap.size, 4, none⟩ (.bool d6)).setCell ⟨w.heap.size, 5, none⟩ (.int .u64 dh)).setCell ⟨w.heap.size, 6, none⟩ (.int .u64 dl)).setCell ⟨w.heap.size, 7, none⟩ (.int .i64 0)).setCell ⟨w.heap.size, 8, none⟩ (.int .i64 0)).drew.cell? ⟨w2.heap.size, 12, none⟩ = some (.int .u64 dl) ∧ (((((((((w3.setCell ⟨w.heap.size, 0, none⟩ (.int .i64 pr)).setCell ⟨w.heap.size, 1, none⟩ (.bool s6)).setCell ⟨w.heap.size, 2, none⟩ (.int .u64 sh)).setCell ⟨w.heap.size, 3, none⟩ (.int .u64 sl)).setCell ⟨w.heap.size, 4, none⟩ (.bool d6)).setCell ⟨w.heap.size, 5, none⟩ (.int .u64 dh)).setCell ⟨w.heap.size, 6, none⟩ (.int .u64 dl)).setCell ⟨w.heap.size, 7, none⟩ (.int .i64 0)).setCell ⟨w.heap.size, 8, none⟩ (.int .i64 0)).drew.cell? ⟨w2.heap.size, 13, none⟩ = some (.slice AO no co) from ⟨KW.out.cell 0, KW.out.cell 1, KW.out.cell 2, KW.out.cell 3, KW.out.cell 4, KW.out.cell 5, KW.out.cell 6, KW.out.cell 7, KW.out.cell 8, KW.out.cell 9, KW.out.cell 10, KW.out.cell 11, KW.out.cell 12, KW.out.cell 13⟩)
  go_region_held3 (fun W => W.cell? ⟨w2.heap.size, 0, none⟩ = some (.int .i64 tos) ∧ W.cell? ⟨w2.heap.size, 1, none⟩ = some (.int .i64 id) ∧ W.cell? ⟨w2.heap.size, 2, none⟩ = some (.bool df) ∧ W.cell? ⟨w2.heap.size, 3, none⟩ = some (.bool mf) ∧ W.cell? ⟨w2.heap.size, 4, none⟩ = some (.int .i64 fr) ∧ W.cell? ⟨w2.heap.size, 5, none⟩ = some (.int .i64 ttl) ∧ W.cell? ⟨w2.heap.size, 6, none⟩ = some (.int .i64 pr) ∧ W.cell? ⟨w2.heap.size, 7, none⟩ = some (.bool s6) ∧ W.cell? ⟨w2.heap.size, 8, none⟩ = some (.int .u64 sh) ∧ W.cell? ⟨w2.heap.size, 9, none⟩ = some (.int .u64 sl) ∧ W.cell? ⟨w2.heap.size, 10, none⟩ = some (.bool d6) ∧ W.cell? ⟨w2.heap.size, 11, none⟩ = some (.int .u64 dh) ∧ W.cell? ⟨w2.heap.size, 12, none⟩ = some (.int .u64 dl) ∧ W.cell? ⟨w2.heap.size, 13, none⟩ = some (.slice AO no co)) (first | with_reducible assumption | with_reducible exact HS.out | with_reducible exact HS2.out) (first | fail)
  go_wp2_with fail
  have OG := tonly w3 w.heap.size (.int .i64 pr) (.bool s6) (.int .u64 sh) (.int .u64 sl) (.bool d6) (.int .u64 dh) (.int .u64 dl) (.int .i64 0) (.int .i64 0)
  have KT := tstore w3 w.heap.size (.int .i64 pr) (.bool s6) (.int .u64 sh) (.int .u64 sl) (.bool d6) (.int .u64 dh) (.int .u64 dl) (.int .i64 0) (.int .i64 0) _ _ _ _ _ _ _ _ _ K13.out
  refine bodyPost_ret (results_quote rfl _ _ w.heap.size #[.int .i64 pr, .bool s6, .int .u64 sh, .int .u64 sl, .bool d6, .int .u64 dh, .int .u64 dl, .int .i64 0, .int .i64 0] rfl (KT.below (Below.refl _ _).drew KT.lt) rfl) rfl ?_
  refine ⟨(OG.from (B1.out.trans (B13.out.mono B1.out.size)) (Nat.le_refl _)).drew, AR, nr, cr, rfl, HNR.out, ?_⟩
  exact own_baseN (own_below2 (own_els HRW.out (by have := SZ1.out; omega) (toEls OG)) (Below.refl _ _).drew) (by have := SZ1.out; omega)
set_option maxHeartbeats 4000000 in
set_option maxRecDepth 100000 in
theorem quote6_any (vb : Value) (f fr pr : Int) (s6 : Bool) (sh sl : Int) (d6 : Bool) (dh dl : Int) (r : List Int) (w : World) (HQ : Hid (∀ V, Below w.heap.size w V → Calls Try.prog 12 #[vb] V (Q6 f fr pr s6 sh sl d6 dh dl r V))) :
    Calls Try.prog 51 #[vb] w (QT f fr pr s6 sh sl d6 dh dl r w) := by
  obtain ⟨w1, hw1⟩ : ∃ w1, w1 = w.alloc (.cells #[.int .i64 0, .bool false, .int .u64 0, .int .u64 0, .bool false, .int .u64 0, .int .u64 0, .int .i64 0, .int .i64 0] 48) := ⟨_, rfl⟩
  have E1 := Lib.hid hw1
  have B1 := Lib.hid (show Below w.heap.size w w1 from by rw [hw1]; exact (Below.refl _ _).alloc (Nat.le_refl _) _)
  have K1 := Lib.hid (show Blk w1 w.heap.size 48 #[.int .i64 0, .bool false, .int .u64 0, .int .u64 0, .bool false, .int .u64 0, .int .u64 0, .int .i64 0, .int .i64 0] from by rw [hw1]; exact Blk.new w _ _)
  have SZ1 := Lib.hid (show w1.heap.size = w.heap.size + 1 from by rw [hw1]; simp)
  clear hw1
  go_enter Try.func51, Try.ntmps51
  go_upto_region 1 with fail
  rw [← E1.out]
  go_wp2_with fail
  refine (HQ.out _ B1.out).mono ?_
  rintro o w2 ⟨hb, cls, lab, hop, L, A, n, c, AR, nr, cr, rfl, hL, hn, hgx, hux, hfr, hnr, hrow⟩
  obtain ⟨w3, hw3⟩ : ∃ w3, w3 = w2.alloc (.cells #[.int .i64 cls, .int .i64 lab, .int .i64 hop, .bool s6, .int .u64 sh, .int .u64 sl, .bool d6, .int .u64 dh, .int .u64 dl, .slice A n c, .int .i64 pr] 29) := ⟨_, rfl⟩
  have E3 := Lib.hid hw3
  have B23 := Lib.hid (show Below w2.heap.size w2 w3 from by rw [hw3]; exact (Below.refl _ _).alloc (Nat.le_refl _) _)
  have B13 := Lib.hid (show Below w1.heap.size w1 w3 from hb.trans (B23.out.mono hb.size))
  have K3 := Lib.hid (show Blk w3 w2.heap.size 29 #[.int .i64 cls, .int .i64 lab, .int .i64 hop, .bool s6, .int .u64 sh, .int .u64 sl, .bool d6, .int .u64 dh, .int .u64 dl, .slice A n c, .int .i64 pr] from by rw [hw3]; exact Blk.new w2 _ _)
  have K13 := Lib.hid (K1.out.below B13.out K1.out.lt)
  have HNR := Lib.hid hnr
  have HRW := Lib.hid (own_below2 hrow B23.out)
  have HNE := Lib.hid (show w.heap.size ≠ w2.heap.size from by have := hb.size; have := SZ1.out; omega)
  have HFR := Lib.hid (show Calls Try.prog 25 #[.agg #[.int .i64 cls, .int .i64 lab, .int .i64 hop, .bool s6, .int .u64 sh, .int .u64 sl, .bool d6, .int .u64 dh, .int .u64 dl, .slice A n c, .int .i64 pr]] w3.drew fun o w' => o = .returned (.int .i64 fr) ∧ Below w3.drew.heap.size w3.drew w' from by
    rw [hfr]
    exact frag_any ⟨cls, lab, hop, s6, sh, sl, d6, dh, dl, pr⟩ A n c L w3.drew hL ((hgx.below B23.out.drew).rd hux) hn)
  clear hw3 hb hnr hrow hL hn hgx hux hfr
  go_upto_region 2 with fail
  rw [← E3.out]
  have KD := Lib.hid (K3.out.below (Below.refl _ _).drew K3.out.lt)
  have HS := Lib.hid (show w3.drew.cell? ⟨w2.heap.size, 0, none⟩ = some (.int .i64 cls) ∧ w3.drew.cell? ⟨w2.heap.size, 1, none⟩ = some (.int .i64 lab) ∧ w3.drew.cell? ⟨w2.heap.size, 2, none⟩ = some (.int .i64 hop) ∧ w3.drew.cell? ⟨w2.heap.size, 3, none⟩ = some (.bool s6) ∧ w3.drew.cell? ⟨w2.heap.size, 4, none⟩ = some (.int .u64 sh) ∧ w3.drew.cell? ⟨w2.heap.size, 5, none⟩ = some (.int .u64 sl) ∧ w3.drew.cell? ⟨w2.heap.size, 6, none⟩ = some (.bool d6) ∧ w3.drew.cell? ⟨w2.heap.size, 7, none⟩ = some (.int .u64 dh) ∧ w3.drew.cell? ⟨w2.heap.size, 8, none⟩ = some (.int .u64 dl) ∧ w3.drew.cell? ⟨w2.heap.size, 9, none⟩ = some (.slice A n c) ∧ w3.drew.cell? ⟨w2.heap.size, 10, none⟩ = some (.int .i64 pr) from ⟨KD.out.cell 0, KD.out.cell 1, KD.out.cell 2, KD.out.cell 3, KD.out.cell 4, KD.out.cell 5, KD.out.cell 6, KD.out.cell 7, KD.out.cell 8, KD.out.cell 9, KD.out.cell 10⟩)
  go_region_held3 (fun W => W.cell? ⟨w2.heap.size, 0, none⟩ = some (.int .i64 cls) ∧ W.cell? ⟨w2.heap.size, 1, none⟩ = some (.int .i64 lab) ∧ W.cell? ⟨w2.heap.size, 2, none⟩ = some (.int .i64 hop) ∧ W.cell? ⟨w2.heap.size, 3, none⟩ = some (.bool s6) ∧ W.cell? ⟨w2.heap.size, 4, none⟩ = some (.int .u64 sh) ∧ W.cell? ⟨w2.heap.size, 5, none⟩ = some (.int .u64 sl) ∧ W.cell? ⟨w2.heap.size, 6, none⟩ = some (.bool d6) ∧ W.cell? ⟨w2.heap.size, 7, none⟩ = some (.int .u64 dh) ∧ W.cell? ⟨w2.heap.size, 8, none⟩ = some (.int .u64 dl) ∧ W.cell? ⟨w2.heap.size, 9, none⟩ = some (.slice A n c) ∧ W.cell? ⟨w2.heap.size, 10, none⟩ = some (.int .i64 pr)) (first | with_reducible assumption | with_reducible exact HS3.out | with_reducible exact HS2.out | with_reducible exact HS.out) (first
    | (go_at_call 25; (with_reducible refine HFR.out.mono ?_); rintro o w5 ⟨rfl, hb5⟩; have B35 := Lib.hid ((Below.refl w3.heap.size w3).drew.trans (hb5.mono (Nat.le_refl _))); have K5 := Lib.hid (K3.out.below B35.out K3.out.lt); have K15 := Lib.hid (K13.out.below B35.out K13.out.lt); have HS2 := Lib.hid (show w5.cell? ⟨w2.heap.size, 0, none⟩ = some (.int .i64 cls) ∧ w5.cell? ⟨w2.heap.size, 1, none⟩ = some (.int .i64 lab) ∧ w5.cell? ⟨w2.heap.size, 2, none⟩ = some (.int .i64 hop) ∧ w5.cell? ⟨w2.heap.size, 3, none⟩ = some (.bool s6) ∧ w5.cell? ⟨w2.heap.size, 4, none⟩ = some (.int .u64 sh) ∧ w5.cell? ⟨w2.heap.size, 5, none⟩ = some (.int .u64 sl) ∧ w5.cell? ⟨w2.heap.size, 6, none⟩ = some (.bool d6) ∧ w5.cell? ⟨w2.heap.size, 7, none⟩ = some (.int .u64 dh) ∧ w5.cell? ⟨w2.heap.size, 8, none⟩ = some (.int .u64 dl) ∧ w5.cell? ⟨w2.heap.size, 9, none⟩ = some (.slice A n c) ∧ w5.cell? ⟨w2.heap.size, 10, none⟩ = some (.int .i64 pr) from ⟨K5.out.cell 0, K5.out.cell 1, K5.out.cell 2, K5.out.cell 3, K5.out.cell 4, K5.out.cell 5, K5.out.cell 6, K5.out.cell 7, K5.out.cell 8, K5.out.cell 9, K5.out.cell 10⟩); have KW := Lib.hid (tfar w5 w.heap.size w2.heap.size (.int .i64 pr) (.bool s6) (.int .u64 sh) (.int .u64 sl) (.bool d6) (.int .u64 dh) (.int .u64 dl) (.int .i64 0) (.int .i64 0) 29 #[.int .i64 cls, .int .i64 lab, .int .i64 hop, .bool s6, .int .u64 sh, .int .u64 sl, .bool d6, .int .u64 dh, .int .u64 dl, .slice A n c, .int .i64 pr] (Ne.symm HNE.out) K5.out); have HS3 := Lib.hid (show (((((((((w5.setCell ⟨w.heap.size, 0, none⟩ (.int .i64 pr)).setCell ⟨w.heap.size, 1, none⟩ (.bool s6)).setCell ⟨w.heap.size, 2, none⟩ (.int .u64 sh)).setCell ⟨w.heap.size, 3, none⟩ (.int .u64 sl)).setCell ⟨w.heap.size, 4, none⟩ (.bool d6)).setCell ⟨w.heap.size, 5, none⟩ (.int .u64 dh)).setCell ⟨w.heap.size, 6, none⟩ (.int .u64 dl)).setCell ⟨w.heap.size, 7, none⟩ (.int .i64 0)).setCell ⟨w.heap.size, 8, none⟩ (.int .i64 0)).cell? ⟨w2.heap.size, 0, none⟩ = some (.int .i64 cls) ∧ (((((((((w5.setCell ⟨w.heap.size, 0, none⟩ (.int .i64 pr)).setCell ⟨w.heap.size, 1, none⟩ (.bool s6)).setCell ⟨w.heap.size, 2, none⟩ (.int .u64 sh)).setCell ⟨w.heap.size, 3, none⟩ (.int .u64 sl)).setCell ⟨w.heap.size, 4, none⟩ (.bool d6)).setCell ⟨w.heap.size, 5, none⟩ (.int .u64 dh)).setCell ⟨w.heap.size, 6, none⟩ (.int .u64 dl)).setCell ⟨w.heap.size, 7, none⟩ (.int .i64 0)).setCell ⟨w.heap.size, 8, none⟩ (.int .i64 0)).cell? ⟨w2.heap.size, 1, none⟩ = some (.int .i64 lab) ∧ (((((((((w5.setCell ⟨w.heap.size, 0, none⟩ (.int .i64 pr)).setCell ⟨w.heap.size, 1, none⟩ (.bool s6)).setCell ⟨w.heap.size, 2, none⟩ (.int .u64 sh)).setCell ⟨w.heap.size, 3, none⟩ (.int .u64 sl)).setCell ⟨w.heap.size, 4, none⟩ (.bool d6)).setCell ⟨w.heap.size, 5, none⟩ (.int .u64 dh)).setCell ⟨w.heap.size, 6, none⟩ (.int .u64 dl)).setCell ⟨w.heap.size, 7, none⟩ (.int .i64 0)).setCell ⟨w.heap.size, 8, none⟩ (.int .i64 0)).cell? ⟨w2.heap.size, 2, none⟩ = some (.int .i64 hop) ∧ (((((((((w5.setCell ⟨w.heap.size, 0, none⟩ (.int .i64 pr)).setCell ⟨w.heap.size, 1, none⟩ (.bool s6)).setCell ⟨w.heap.size, 2, none⟩ (.int .u64 sh)).setCell ⟨w.heap.size, 3, none⟩ (.int .u64 sl)).setCell ⟨w.heap.size, 4, none⟩ (.bool d6)).setCell ⟨w.heap.size, 5, none⟩ (.int .u64 dh)).setCell ⟨w.heap.size, 6, none⟩ (.int .u64 dl)).setCell ⟨w.heap.size, 7, none⟩ (.int .i64 0)).setCell ⟨w.heap.size, 8, none⟩ (.int .i64 0)).cell? ⟨w2.heap.size, 3, none⟩ = some (.bool s6) ∧ (((((((((w5.setCell ⟨w.heap.size, 0, none⟩ (.int .i64 pr)).setCell ⟨w.heap.size, 1, none⟩ (.bool s6)).setCell ⟨w.heap.size, 2, none⟩ (.int .u64 sh)).setCell ⟨w.heap.size, 3, none⟩ (.int .u64 sl)).setCell ⟨w.heap.size, 4, none⟩ (.bool d6)).setCell ⟨w.heap.size, 5, none⟩ (.int .u64 dh)).setCell ⟨w.heap.size, 6, none⟩ (.int .u64 dl)).setCell ⟨w.heap.size, 7, none⟩ (.int .i64 0)).setCell ⟨w.heap.size, 8, none⟩ (.int .i64 0)).cell? ⟨w2.heap.size, 4, none⟩ = some (.int .u64 sh) ∧ (((((((((w5.setCell ⟨w.heap.size, 0, none⟩ (.int .i64 pr)).setCell ⟨w.heap.size, 1, none⟩ (.bool s6)).setCell ⟨w.heap.size, 2, none⟩ (.int .u64 sh)).setCell ⟨w.heap.size, 3, none⟩ (.int .u64 sl)).setCell ⟨w.heap.size, 4, none⟩ (.bool d6)).setCell ⟨w.heap.size, 5, none⟩ (.int .u64 dh)).setCell ⟨w.heap.size, 6, none⟩ (.int .u64 dl)).setCell ⟨w.heap.size, 7, none⟩ (.int .i64 0)).setCell ⟨w.heap.size, 8, none⟩ (.int .i64 0)).cell? ⟨w2.heap.size, 5, none⟩ = some (.int .u64 sl) ∧ (((((((((w5.setCell ⟨w.heap.size, 0, none⟩ (.int .i64 pr)).setCell ⟨w.heap.size, 1, none⟩ (.bool s6)).setCell ⟨w.heap.size, 2, none⟩ (.int .u64 sh)).setCell ⟨w.heap.size, 3, none⟩ (.int .u64 sl)).setCell ⟨w.heap.size, 4, none⟩ (.bool d6)).setCell ⟨w.heap.size, 5, none⟩ (.int .u64 dh)).setCell ⟨w.heap.size, 6, none⟩ (.int .u64 dl)).setCell ⟨w.heap.size, 7, none⟩ (.int .i64 0)).setCell ⟨w.heap.size, 8, none⟩ (.int .i64 0)).cell? ⟨w2.heap.size, 6, none⟩ = some (.bool d6) ∧ (((((((((w5.setCell ⟨w.heap.size, 0, none⟩ (.int .i64 pr)).setCell ⟨w.heap.size, 1, none⟩ (.bool s6)).setCell ⟨w.heap.size, 2, none⟩ (.int .u64 sh)).setCell ⟨w.heap.size, 3, none⟩ (.int .u64 sl)).setCell ⟨w.heap.size, 4, none⟩ (.bool d6)).setCell ⟨w.heap.size, 5, none⟩ (.int .u64 dh)).setCell ⟨w.heap.size, 6, none⟩ (.int .u64 dl)).setCell ⟨w.heap.size, 7, none⟩ (.int .i64 0)).setCell ⟨w.heap.size, 8, none⟩ (.int .i64 0)).cell? ⟨w2.heap.size, 7, none⟩ = some (.int .u64 dh) ∧ (((((((((w5.setCell ⟨w.heap.size, 0, none⟩ (.int .i64 pr)).setCell ⟨w.heap.size, 1, none⟩ (.bool s6)).setCell ⟨w.heap.size, 2, none⟩ (.int .u64 sh)).setCell ⟨w.heap.size, 3, none⟩ (.int .u64 sl)).setCell ⟨w.heap.size, 4, none⟩ (.bool d6)).setCell ⟨w.heap.size, 5, none⟩ (.int .u64 dh)).setCell ⟨w.heap.size, 6, none⟩ (.int .u64 dl)).setCell ⟨w.heap.size, 7, none⟩ (.int .i64 0)).setCell ⟨w.heap.size, 8, none⟩ (.int .i64 0)).cell? ⟨w2.heap.size, 8, none⟩ = some (.int .u64 dl) ∧ (((((((((w5.setCell ⟨w.heap.size, 0, none⟩ (.int .i64 pr)).setCell ⟨w.heap.size, 1, none⟩ (.bool s6)).setCell ⟨w.heap.size, 2, none⟩ (.int .u64 sh)).setCell ⟨w.heap.size, 3, none⟩ (.int .u64 sl)).setCell ⟨w.heap.size, 4, none⟩ (.bool d6)).setCell ⟨w.heap.size, 5, none⟩ (.int .u64 dh)).setCell ⟨w.heap.size, 6, none⟩ (.int .u64 dl)).setCell ⟨w.heap.size, 7, none⟩ (.int .i64 0)).setCell ⟨w.heap.size, 8, none⟩ (.int .i64 0)).cell? ⟨w2.heap.size, 9, none⟩ = some (.slice A n c) ∧ (((((((((w5.setCell ⟨w.heap.size, 0, none⟩ (.int .i64 pr)).setCell ⟨w.heap.size, 1, none⟩ (.bool s6)).setCell ⟨w.heap.size, 2, none⟩ (.int .u64 sh)).setCell ⟨w.heap.size, 3, none⟩ (.int .u64 sl)).setCell ⟨w.heap.size, 4, none⟩ (.bool d6)).setCell ⟨w.heap.size, 5, none⟩ (.int .u64 dh)).setCell ⟨w.heap.size, 6, none⟩ (.int .u64 dl)).setCell ⟨w.heap.size, 7, none⟩ (.int .i64 0)).setCell ⟨w.heap.size, 8, none⟩ (.int .i64 0)).cell? ⟨w2.heap.size, 10, none⟩ = some (.int .i64 pr) from ⟨KW.out.cell 0, KW.out.cell 1, KW.out.cell 2, KW.out.cell 3, KW.out.cell 4, KW.out.cell 5, KW.out.cell 6, KW.out.cell 7, KW.out.cell 8, KW.out.cell 9, KW.out.cell 10⟩); have z0 := K15.out.frozen 0; have y0 := K15.out.cell 0; have z1 := K15.out.frozen 1; have y1 := K15.out.cell 1; have z2 := K15.out.frozen 2; have y2 := K15.out.cell 2; have z3 := K15.out.frozen 3; have y3 := K15.out.cell 3; have z4 := K15.out.frozen 4; have y4 := K15.out.cell 4; have z5 := K15.out.frozen 5; have y5 := K15.out.cell 5; have z6 := K15.out.frozen 6; have y6 := K15.out.cell 6; have z7 := K15.out.frozen 7; have y7 := K15.out.cell 7; have z8 := K15.out.frozen 8; have y8 := K15.out.cell 8; clear hb5))
  go_wp2_with fail
  have OG := tonly w5 w.heap.size (.int .i64 pr) (.bool s6) (.int .u64 sh) (.int .u64 sl) (.bool d6) (.int .u64 dh) (.int .u64 dl) (.int .i64 0) (.int .i64 0)
  have KT := tstore w5 w.heap.size (.int .i64 pr) (.bool s6) (.int .u64 sh) (.int .u64 sl) (.bool d6) (.int .u64 dh) (.int .u64 dl) (.int .i64 0) (.int .i64 0) _ _ _ _ _ _ _ _ _ K15.out
  have BW5 := (B1.out.trans (B13.out.mono B1.out.size)).trans (B35.out.mono (Nat.le_trans B1.out.size B13.out.size))
  refine bodyPost_ret (results_quote rfl _ _ w.heap.size #[.int .i64 pr, .bool s6, .int .u64 sh, .int .u64 sl, .bool d6, .int .u64 dh, .int .u64 dl, .int .i64 0, .int .i64 0] rfl KT rfl) rfl ?_
  refine ⟨OG.from BW5 (Nat.le_refl _), AR, nr, cr, rfl, HNR.out, ?_⟩
  exact own_baseN (own_els (own_below2 HRW.out B35.out) (by have := SZ1.out; omega) (toEls OG)) (by have := SZ1.out; omega)
end Go.Proofs.Ytndekicblbpkjaa.icmpH
/- Layer 12: Error, Quoted. -/
namespace Go.Proofs.Ytndekicblbpkjaa.icmpI
open Go.ChangeShapes Go.WideShapes Go.ChangeAt Go.RowKit
open Go.Proofs.Ytndekicblbpkjaa.base Go.Proofs.Ytndekicblbpkjaa.octA Go.Proofs.Ytndekicblbpkjaa.octB Go.Proofs.Ytndekicblbpkjaa.octC Go.Proofs.Ytndekicblbpkjaa.octF Go.Proofs.Ytndekicblbpkjaa.octK Go.Proofs.Ytndekicblbpkjaa.net Go.Proofs.Ytndekicblbpkjaa.rdrA Go.Proofs.Ytndekicblbpkjaa.rdrG Go.Proofs.Ytndekicblbpkjaa.sumA Go.Proofs.Ytndekicblbpkjaa.sumB Go.Proofs.Ytndekicblbpkjaa.udpA Go.Proofs.Ytndekicblbpkjaa.tcpC Go.Proofs.Ytndekicblbpkjaa.sixW Go.Proofs.Ytndekicblbpkjaa.sixM Go.Proofs.Ytndekicblbpkjaa.sixA Go.Proofs.Ytndekicblbpkjaa.sixB Go.Proofs.Ytndekicblbpkjaa.sixC Go.Proofs.Ytndekicblbpkjaa.sixD Go.Proofs.Ytndekicblbpkjaa.sixE Go.Proofs.Ytndekicblbpkjaa.sixF Go.Proofs.Ytndekicblbpkjaa.icmpA Go.Proofs.Ytndekicblbpkjaa.icmpH
set_option linter.unusedVariables false

def tellsB (v : Bool) (k : Int) : Bool := if v = true then decide (1 ≤ k ∧ k ≤ 4) else decide (3 ≤ k ∧ k ≤ 5 ∨ k = 11 ∨ k = 12)
theorem error_all (v : Bool) (k : Int) (w : World) : Calls Try.prog 23 #[.bool v, .int .i64 k] w fun e w' => e = .returned (.bool (tellsB v k)) ∧ w = w' := by
  cases v with
  | true =>
    rcases Int.lt_or_le k 1 with h | h
    · have e : tellsB true k = false := by unfold tellsB; rw [if_pos rfl]; exact decide_eq_false (by omega)
      rw [e]
      have t : decide (1 ≤ k) = false := decide_eq_false (by omega)
      go_enter Try.func23, Try.ntmps23
      go_wp2_with fail
      go_ret
      exact ⟨rfl, rfl⟩
    · have t : decide (1 ≤ k) = true := decide_eq_true h
      rcases Int.lt_or_le 4 k with h2 | h2
      · have e : tellsB true k = false := by unfold tellsB; rw [if_pos rfl]; exact decide_eq_false (by omega)
        rw [e]
        have t2 : decide (k ≤ 4) = false := decide_eq_false (by omega)
        go_enter Try.func23, Try.ntmps23
        go_wp2_with fail
        go_ret
        exact ⟨rfl, rfl⟩
      · have e : tellsB true k = true := by unfold tellsB; rw [if_pos rfl]; exact decide_eq_true ⟨h, h2⟩
        rw [e]
        have t2 : decide (k ≤ 4) = true := decide_eq_true h2
        go_enter Try.func23, Try.ntmps23
        go_wp2_with fail
        go_ret
        exact ⟨rfl, rfl⟩
  | false =>
    have key : ∀ (a b : Bool) (r : Bool), decide (3 ≤ k) = a → decide (k ≤ 5) = b → (a = true ∧ b = true → r = true) → (¬ (a = true ∧ b = true) → r = (k == 11 || k == 12)) → Calls Try.prog 23 #[.bool false, .int .i64 k] w fun e w' => e = .returned (.bool r) ∧ w = w' := fun a b r ha hb h1 h2 => by
      cases a with
      | false =>
        have h3 := h2 (by simp)
        subst h3
        clear h1 h2
        cases c1 : (k == 11) <;> cases c2 : (k == 12) <;>
          (go_enter Try.func23, Try.ntmps23
           go_wp2_with fail
           go_ret
           exact ⟨rfl, rfl⟩)
      | true =>
        cases b with
        | true =>
          have h3 := h1 ⟨rfl, rfl⟩
          subst h3
          clear h1 h2
          go_enter Try.func23, Try.ntmps23
          go_wp2_with fail
          go_ret
          exact ⟨rfl, rfl⟩
        | false =>
          have h3 := h2 (by simp)
          subst h3
          clear h1 h2
          cases c1 : (k == 11) <;> cases c2 : (k == 12) <;>
            (go_enter Try.func23, Try.ntmps23
             go_wp2_with fail
             go_ret
             exact ⟨rfl, rfl⟩)
    refine key _ _ _ rfl rfl (fun h => ?_) (fun h => ?_)
    · have h1 := of_decide_eq_true h.1
      have h2 := of_decide_eq_true h.2
      unfold tellsB
      rw [if_neg (by decide)]
      exact decide_eq_true (.inl ⟨h1, h2⟩)
    · unfold tellsB
      rw [if_neg (by decide)]
      rw [decide_eq_true_iff, decide_eq_true_iff] at h
      by_cases c1 : k = 11
      · subst c1; decide
      · by_cases c2 : k = 12
        · subst c2; decide
        · rw [decide_eq_false (by omega)]
          simp [c1, c2]
theorem results_two_q {fn : Func} {p u : Tmp} (h : fn.results = #[.cell p 48, .tmp u]) (tmps : Array Value) (w : World) (g : Nat) (cs : Array Value) (hp : tmps.getD p undef = .pointer (some ⟨g, 0, none⟩)) (hg : Blk w g 48 cs) (hs : cs.size = 9) :
    (results fn tmps).run Try.prog w = .ok (.tuple #[.agg cs, tmps.getD u undef]) w := by
  have e : (results fn tmps).run Try.prog w = ((asAddr (tmps.getD p undef)).run Try.prog w).andThen fun a w1 => ((loadVar 48 a).run Try.prog w1).andThen fun y w2 => .ok (.tuple #[y, tmps.getD u undef]) w2 := by
    simp only [results, h]
    simp [Sem.run_bind, Result.andThen]
  rw [e, hp]
  simp only [asAddr, Sem.run_pure, Result.andThen_ok]
  rw [run_loadVar_row w g 48 48 cs (0, 0) _ hg Try.underlying48 rfl (by rw [hs]; kernel_rfl)]
  rfl
set_option maxHeartbeats 4000000 in
set_option maxRecDepth 100000 in
theorem quoted4_not (ty co wd : Int) (A : Option Addr) (n c : Nat) (f fr pr : Int) (s6 : Bool) (sh sl : Int) (d6 : Bool) (dh dl : Int) (r : List Int) (w : World) (ht : tellsB false ty = false) :
    Calls Try.prog 22 #[.bool false, .agg #[.int .i64 ty, .int .i64 co, .int .u32 wd, .slice A n c]] w fun o w' => o = .returned (.tuple #[.agg #[.int .i64 0, .bool false, .int .u64 0, .int .u64 0, .bool false, .int .u64 0, .int .u64 0, .int .i64 0, .int .i64 0], .int .i64 24]) ∧ Below w.heap.size w w' := by
  obtain ⟨w1, hw1⟩ : ∃ w1, w1 = (w.alloc (.cells #[.int .i64 ty, .int .i64 co, .int .u32 wd, .slice A n c] 46)).alloc (.cells #[.int .i64 0, .bool false, .int .u64 0, .int .u64 0, .bool false, .int .u64 0, .int .u64 0, .int .i64 0, .int .i64 0] 48) := ⟨_, rfl⟩
  have E1 := Lib.hid hw1
  have BA := Lib.hid (show Below w.heap.size w (w.alloc (.cells #[.int .i64 ty, .int .i64 co, .int .u32 wd, .slice A n c] 46)) from (Below.refl _ _).alloc (Nat.le_refl _) _)
  have B1 := Lib.hid (show Below w.heap.size w w1 from by rw [hw1]; exact BA.out.alloc BA.out.size _)
  have K0 := Lib.hid (show Blk w1 w.heap.size 46 #[.int .i64 ty, .int .i64 co, .int .u32 wd, .slice A n c] from by rw [hw1]; exact (Blk.new w _ _).alloc _)
  have K1 := Lib.hid (show Blk w1 (w.heap.size + 1) 48 #[.int .i64 0, .bool false, .int .u64 0, .int .u64 0, .bool false, .int .u64 0, .int .u64 0, .int .i64 0, .int .i64 0] from by
    have h9 := Blk.new (w.alloc (.cells #[.int .i64 ty, .int .i64 co, .int .u32 wd, .slice A n c] 46)) 48 #[.int .i64 0, .bool false, .int .u64 0, .int .u64 0, .bool false, .int .u64 0, .int .u64 0, .int .i64 0, .int .i64 0]
    rw [← hw1] at h9
    simpa using h9)
  have SZ1 := Lib.hid (show w1.heap.size = w.heap.size + 2 from by rw [hw1]; simp)
  have TE := Lib.hid (error_all false ty w1)
  rw [ht] at TE
  obtain ⟨g4, hg4⟩ : ∃ g4, g4 = w.heap.size + 1 := ⟨_, rfl⟩
  have EG4 := Lib.hid hg4
  rw [← hg4] at K1
  clear hw1 ht hg4
  have m0 := K0.out.cell 0
  have m3 := K0.out.cell 3
  have r0 := K1.out.cell 0
  have z0 := K1.out.frozen 0
  have r1 := K1.out.cell 1
  have z1 := K1.out.frozen 1
  have r2 := K1.out.cell 2
  have z2 := K1.out.frozen 2
  have r3 := K1.out.cell 3
  have z3 := K1.out.frozen 3
  have r4 := K1.out.cell 4
  have z4 := K1.out.frozen 4
  have r5 := K1.out.cell 5
  have z5 := K1.out.frozen 5
  have r6 := K1.out.cell 6
  have z6 := K1.out.frozen 6
  have r7 := K1.out.cell 7
  have z7 := K1.out.frozen 7
  have r8 := K1.out.cell 8
  have z8 := K1.out.frozen 8
  go_enter Try.func22, Try.ntmps22
  go_upto_region 1 with fail
  rw [← E1.out]
  rw [← EG4.out]
  go_wp2_with fail
  refine TE.out.mono ?_
  rintro o w' ⟨rfl, rfl⟩
  go_wp2_with fail
  have OG := tonly w1 g4 (.int .i64 0) (.bool false) (.int .u64 0) (.int .u64 0) (.bool false) (.int .u64 0) (.int .u64 0) (.int .i64 0) (.int .i64 0)
  have KT := tstore w1 g4 (.int .i64 0) (.bool false) (.int .u64 0) (.int .u64 0) (.bool false) (.int .u64 0) (.int .u64 0) (.int .i64 0) (.int .i64 0) _ _ _ _ _ _ _ _ _ K1.out
  refine bodyPost_ret (results_two_q rfl _ _ g4 #[.int .i64 0, .bool false, .int .u64 0, .int .u64 0, .bool false, .int .u64 0, .int .u64 0, .int .i64 0, .int .i64 0] rfl KT rfl) rfl ?_
  exact ⟨rfl, OG.from B1.out (by have := EG4.out; omega)⟩
set_option maxHeartbeats 4000000 in
set_option maxRecDepth 100000 in
theorem quoted4_err (ty co wd : Int) (A : Option Addr) (n c : Nat) (f fr pr : Int) (s6 : Bool) (sh sl : Int) (d6 : Bool) (dh dl : Int) (r : List Int) (w : World) (ht : tellsB false ty = true) (he : f ≠ 0)
    (HQ : Hid (∀ V, Below w.heap.size w V → Calls Try.prog 50 #[.slice A n c] V (QT f fr pr s6 sh sl d6 dh dl r V))) :
    Calls Try.prog 22 #[.bool false, .agg #[.int .i64 ty, .int .i64 co, .int .u32 wd, .slice A n c]] w fun o w' => o = .returned (.tuple #[.agg #[.int .i64 0, .bool false, .int .u64 0, .int .u64 0, .bool false, .int .u64 0, .int .u64 0, .int .i64 0, .int .i64 0], .int .i64 f]) ∧ Below w.heap.size w w' := by
  obtain ⟨w1, hw1⟩ : ∃ w1, w1 = (w.alloc (.cells #[.int .i64 ty, .int .i64 co, .int .u32 wd, .slice A n c] 46)).alloc (.cells #[.int .i64 0, .bool false, .int .u64 0, .int .u64 0, .bool false, .int .u64 0, .int .u64 0, .int .i64 0, .int .i64 0] 48) := ⟨_, rfl⟩
  have E1 := Lib.hid hw1
  have BA := Lib.hid (show Below w.heap.size w (w.alloc (.cells #[.int .i64 ty, .int .i64 co, .int .u32 wd, .slice A n c] 46)) from (Below.refl _ _).alloc (Nat.le_refl _) _)
  have B1 := Lib.hid (show Below w.heap.size w w1 from by rw [hw1]; exact BA.out.alloc BA.out.size _)
  have K0 := Lib.hid (show Blk w1 w.heap.size 46 #[.int .i64 ty, .int .i64 co, .int .u32 wd, .slice A n c] from by rw [hw1]; exact (Blk.new w _ _).alloc _)
  have K1 := Lib.hid (show Blk w1 (w.heap.size + 1) 48 #[.int .i64 0, .bool false, .int .u64 0, .int .u64 0, .bool false, .int .u64 0, .int .u64 0, .int .i64 0, .int .i64 0] from by
    have h9 := Blk.new (w.alloc (.cells #[.int .i64 ty, .int .i64 co, .int .u32 wd, .slice A n c] 46)) 48 #[.int .i64 0, .bool false, .int .u64 0, .int .u64 0, .bool false, .int .u64 0, .int .u64 0, .int .i64 0, .int .i64 0]
    rw [← hw1] at h9
    simpa using h9)
  have SZ1 := Lib.hid (show w1.heap.size = w.heap.size + 2 from by rw [hw1]; simp)
  have TE := Lib.hid (error_all false ty w1)
  rw [ht] at TE
  obtain ⟨g4, hg4⟩ : ∃ g4, g4 = w.heap.size + 1 := ⟨_, rfl⟩
  have EG4 := Lib.hid hg4
  rw [← hg4] at K1
  clear hw1 ht hg4
  have te : (f != 0) = true := by simpa using he
  clear he
  have m0 := K0.out.cell 0
  have m3 := K0.out.cell 3
  have r0 := K1.out.cell 0
  have z0 := K1.out.frozen 0
  have r1 := K1.out.cell 1
  have z1 := K1.out.frozen 1
  have r2 := K1.out.cell 2
  have z2 := K1.out.frozen 2
  have r3 := K1.out.cell 3
  have z3 := K1.out.frozen 3
  have r4 := K1.out.cell 4
  have z4 := K1.out.frozen 4
  have r5 := K1.out.cell 5
  have z5 := K1.out.frozen 5
  have r6 := K1.out.cell 6
  have z6 := K1.out.frozen 6
  have r7 := K1.out.cell 7
  have z7 := K1.out.frozen 7
  have r8 := K1.out.cell 8
  have z8 := K1.out.frozen 8
  go_enter Try.func22, Try.ntmps22
  go_upto_region 1 with fail
  rw [← E1.out]
  rw [← EG4.out]
  go_wp2_with fail
  refine TE.out.mono ?_
  rintro o w' ⟨rfl, rfl⟩
  go_wp2_with fail
  refine (HQ.out _ B1.out).mono ?_
  rintro o w2 ⟨hb2, AR, nr, cr, rfl, hnr, hrow⟩
  obtain ⟨w3, hw3⟩ : ∃ w3, w3 = w2.alloc (.cells #[.int .i64 pr, .bool s6, .int .u64 sh, .int .u64 sl, .bool d6, .int .u64 dh, .int .u64 dl, .int .i64 0, .int .i64 0] 48) := ⟨_, rfl⟩
  have E3 := Lib.hid hw3
  have B23 := Lib.hid (show Below w2.heap.size w2 w3 from by rw [hw3]; exact (Below.refl _ _).alloc (Nat.le_refl _) _)
  have B13 := Lib.hid (hb2.trans (B23.out.mono hb2.size))
  have K3 := Lib.hid (show Blk w3 w2.heap.size 48 #[.int .i64 pr, .bool s6, .int .u64 sh, .int .u64 sl, .bool d6, .int .u64 dh, .int .u64 dl, .int .i64 0, .int .i64 0] from by rw [hw3]; exact Blk.new w2 _ _)
  have K13 := Lib.hid (K1.out.below B13.out K1.out.lt)
  have B12 := Lib.hid hb2.size
  have BW3 := Lib.hid (B1.out.trans (B13.out.mono B1.out.size))
  have HNR := Lib.hid hnr
  have HNE := Lib.hid (show g4 ≠ w2.heap.size from by have := hb2.size; have := SZ1.out; have := EG4.out; omega)
  have HG4 := Lib.hid (show w.heap.size ≤ g4 from by have := EG4.out; omega)
  have HRW := Lib.hid (own_below2 hrow B23.out)
  clear hw3 hb2 hrow hnr
  clear r0 r1 r2 r3 r4 r5 r6 r7 r8 z0 z1 z2 z3 z4 z5 z6 z7 z8
  go_upto_region 7 with fail
  rw [← E3.out]
  have r0 := K13.out.cell 0
  have z0 := K13.out.frozen 0
  have r1 := K13.out.cell 1
  have z1 := K13.out.frozen 1
  have r2 := K13.out.cell 2
  have z2 := K13.out.frozen 2
  have r3 := K13.out.cell 3
  have z3 := K13.out.frozen 3
  have r4 := K13.out.cell 4
  have z4 := K13.out.frozen 4
  have r5 := K13.out.cell 5
  have z5 := K13.out.frozen 5
  have r6 := K13.out.cell 6
  have z6 := K13.out.frozen 6
  have r7 := K13.out.cell 7
  have z7 := K13.out.frozen 7
  have r8 := K13.out.cell 8
  have z8 := K13.out.frozen 8
  go_wp2_with fail
  have OG := tonly w3 g4 (.int .i64 0) (.bool false) (.int .u64 0) (.int .u64 0) (.bool false) (.int .u64 0) (.int .u64 0) (.int .i64 0) (.int .i64 0)
  have KT := tstore w3 g4 (.int .i64 0) (.bool false) (.int .u64 0) (.int .u64 0) (.bool false) (.int .u64 0) (.int .u64 0) (.int .i64 0) (.int .i64 0) _ _ _ _ _ _ _ _ _ K13.out
  refine bodyPost_ret (results_two_q rfl _ _ g4 #[.int .i64 0, .bool false, .int .u64 0, .int .u64 0, .bool false, .int .u64 0, .int .u64 0, .int .i64 0, .int .i64 0] rfl KT rfl) rfl ?_
  exact ⟨rfl, OG.from BW3.out HG4.out⟩
set_option maxHeartbeats 4000000 in
set_option maxRecDepth 100000 in
theorem quoted4_frag (ty co wd : Int) (A : Option Addr) (n c : Nat) (f fr pr : Int) (s6 : Bool) (sh sl : Int) (d6 : Bool) (dh dl : Int) (r : List Int) (w : World) (ht : tellsB false ty = true) (he : f = 0) (hf : fr ≠ 0)
    (HQ : Hid (∀ V, Below w.heap.size w V → Calls Try.prog 50 #[.slice A n c] V (QT f fr pr s6 sh sl d6 dh dl r V))) :
    Calls Try.prog 22 #[.bool false, .agg #[.int .i64 ty, .int .i64 co, .int .u32 wd, .slice A n c]] w fun o w' => o = .returned (.tuple #[.agg #[.int .i64 0, .bool false, .int .u64 0, .int .u64 0, .bool false, .int .u64 0, .int .u64 0, .int .i64 0, .int .i64 0], .int .i64 21]) ∧ Below w.heap.size w w' := by
  obtain ⟨w1, hw1⟩ : ∃ w1, w1 = (w.alloc (.cells #[.int .i64 ty, .int .i64 co, .int .u32 wd, .slice A n c] 46)).alloc (.cells #[.int .i64 0, .bool false, .int .u64 0, .int .u64 0, .bool false, .int .u64 0, .int .u64 0, .int .i64 0, .int .i64 0] 48) := ⟨_, rfl⟩
  have E1 := Lib.hid hw1
  have BA := Lib.hid (show Below w.heap.size w (w.alloc (.cells #[.int .i64 ty, .int .i64 co, .int .u32 wd, .slice A n c] 46)) from (Below.refl _ _).alloc (Nat.le_refl _) _)
  have B1 := Lib.hid (show Below w.heap.size w w1 from by rw [hw1]; exact BA.out.alloc BA.out.size _)
  have K0 := Lib.hid (show Blk w1 w.heap.size 46 #[.int .i64 ty, .int .i64 co, .int .u32 wd, .slice A n c] from by rw [hw1]; exact (Blk.new w _ _).alloc _)
  have K1 := Lib.hid (show Blk w1 (w.heap.size + 1) 48 #[.int .i64 0, .bool false, .int .u64 0, .int .u64 0, .bool false, .int .u64 0, .int .u64 0, .int .i64 0, .int .i64 0] from by
    have h9 := Blk.new (w.alloc (.cells #[.int .i64 ty, .int .i64 co, .int .u32 wd, .slice A n c] 46)) 48 #[.int .i64 0, .bool false, .int .u64 0, .int .u64 0, .bool false, .int .u64 0, .int .u64 0, .int .i64 0, .int .i64 0]
    rw [← hw1] at h9
    simpa using h9)
  have SZ1 := Lib.hid (show w1.heap.size = w.heap.size + 2 from by rw [hw1]; simp)
  have TE := Lib.hid (error_all false ty w1)
  rw [ht] at TE
  obtain ⟨g4, hg4⟩ : ∃ g4, g4 = w.heap.size + 1 := ⟨_, rfl⟩
  have EG4 := Lib.hid hg4
  rw [← hg4] at K1
  clear hw1 ht hg4
  subst he
  have tf : (fr != 0) = true := by simpa using hf
  clear hf
  have m0 := K0.out.cell 0
  have m3 := K0.out.cell 3
  have r0 := K1.out.cell 0
  have z0 := K1.out.frozen 0
  have r1 := K1.out.cell 1
  have z1 := K1.out.frozen 1
  have r2 := K1.out.cell 2
  have z2 := K1.out.frozen 2
  have r3 := K1.out.cell 3
  have z3 := K1.out.frozen 3
  have r4 := K1.out.cell 4
  have z4 := K1.out.frozen 4
  have r5 := K1.out.cell 5
  have z5 := K1.out.frozen 5
  have r6 := K1.out.cell 6
  have z6 := K1.out.frozen 6
  have r7 := K1.out.cell 7
  have z7 := K1.out.frozen 7
  have r8 := K1.out.cell 8
  have z8 := K1.out.frozen 8
  go_enter Try.func22, Try.ntmps22
  go_upto_region 1 with fail
  rw [← E1.out]
  rw [← EG4.out]
  go_wp2_with fail
  refine TE.out.mono ?_
  rintro o w' ⟨rfl, rfl⟩
  go_wp2_with fail
  refine (HQ.out _ B1.out).mono ?_
  rintro o w2 ⟨hb2, AR, nr, cr, rfl, hnr, hrow⟩
  obtain ⟨w3, hw3⟩ : ∃ w3, w3 = w2.alloc (.cells #[.int .i64 pr, .bool s6, .int .u64 sh, .int .u64 sl, .bool d6, .int .u64 dh, .int .u64 dl, .int .i64 0, .int .i64 0] 48) := ⟨_, rfl⟩
  have E3 := Lib.hid hw3
  have B23 := Lib.hid (show Below w2.heap.size w2 w3 from by rw [hw3]; exact (Below.refl _ _).alloc (Nat.le_refl _) _)
  have B13 := Lib.hid (hb2.trans (B23.out.mono hb2.size))
  have K3 := Lib.hid (show Blk w3 w2.heap.size 48 #[.int .i64 pr, .bool s6, .int .u64 sh, .int .u64 sl, .bool d6, .int .u64 dh, .int .u64 dl, .int .i64 0, .int .i64 0] from by rw [hw3]; exact Blk.new w2 _ _)
  have K13 := Lib.hid (K1.out.below B13.out K1.out.lt)
  have B12 := Lib.hid hb2.size
  have BW3 := Lib.hid (B1.out.trans (B13.out.mono B1.out.size))
  have HNR := Lib.hid hnr
  have HNE := Lib.hid (show g4 ≠ w2.heap.size from by have := hb2.size; have := SZ1.out; have := EG4.out; omega)
  have HG4 := Lib.hid (show w.heap.size ≤ g4 from by have := EG4.out; omega)
  have HRW := Lib.hid (own_below2 hrow B23.out)
  clear hw3 hb2 hrow hnr
  clear r0 r1 r2 r3 r4 r5 r6 r7 r8 z0 z1 z2 z3 z4 z5 z6 z7 z8
  go_upto_region 7 with fail
  rw [← E3.out]
  have r0 := K13.out.cell 0
  have z0 := K13.out.frozen 0
  have r1 := K13.out.cell 1
  have z1 := K13.out.frozen 1
  have r2 := K13.out.cell 2
  have z2 := K13.out.frozen 2
  have r3 := K13.out.cell 3
  have z3 := K13.out.frozen 3
  have r4 := K13.out.cell 4
  have z4 := K13.out.frozen 4
  have r5 := K13.out.cell 5
  have z5 := K13.out.frozen 5
  have r6 := K13.out.cell 6
  have z6 := K13.out.frozen 6
  have r7 := K13.out.cell 7
  have z7 := K13.out.frozen 7
  have r8 := K13.out.cell 8
  have z8 := K13.out.frozen 8
  go_wp2_with fail
  have OG := tonly w3 g4 (.int .i64 0) (.bool false) (.int .u64 0) (.int .u64 0) (.bool false) (.int .u64 0) (.int .u64 0) (.int .i64 0) (.int .i64 0)
  have KT := tstore w3 g4 (.int .i64 0) (.bool false) (.int .u64 0) (.int .u64 0) (.bool false) (.int .u64 0) (.int .u64 0) (.int .i64 0) (.int .i64 0) _ _ _ _ _ _ _ _ _ K13.out
  refine bodyPost_ret (results_two_q rfl _ _ g4 #[.int .i64 0, .bool false, .int .u64 0, .int .u64 0, .bool false, .int .u64 0, .int .u64 0, .int .i64 0, .int .i64 0] rfl KT rfl) rfl ?_
  exact ⟨rfl, OG.from BW3.out HG4.out⟩
set_option maxHeartbeats 4000000 in
set_option maxRecDepth 100000 in
theorem quoted4_proto (ty co wd : Int) (A : Option Addr) (n c : Nat) (f fr pr : Int) (s6 : Bool) (sh sl : Int) (d6 : Bool) (dh dl : Int) (r : List Int) (w : World) (ht : tellsB false ty = true) (he : f = 0) (hf : fr = 0) (hp : pr ≠ 6 ∧ pr ≠ 17)
    (HQ : Hid (∀ V, Below w.heap.size w V → Calls Try.prog 50 #[.slice A n c] V (QT f fr pr s6 sh sl d6 dh dl r V))) :
    Calls Try.prog 22 #[.bool false, .agg #[.int .i64 ty, .int .i64 co, .int .u32 wd, .slice A n c]] w fun o w' => o = .returned (.tuple #[.agg #[.int .i64 0, .bool false, .int .u64 0, .int .u64 0, .bool false, .int .u64 0, .int .u64 0, .int .i64 0, .int .i64 0], .int .i64 14]) ∧ Below w.heap.size w w' := by
  obtain ⟨w1, hw1⟩ : ∃ w1, w1 = (w.alloc (.cells #[.int .i64 ty, .int .i64 co, .int .u32 wd, .slice A n c] 46)).alloc (.cells #[.int .i64 0, .bool false, .int .u64 0, .int .u64 0, .bool false, .int .u64 0, .int .u64 0, .int .i64 0, .int .i64 0] 48) := ⟨_, rfl⟩
  have E1 := Lib.hid hw1
  have BA := Lib.hid (show Below w.heap.size w (w.alloc (.cells #[.int .i64 ty, .int .i64 co, .int .u32 wd, .slice A n c] 46)) from (Below.refl _ _).alloc (Nat.le_refl _) _)
  have B1 := Lib.hid (show Below w.heap.size w w1 from by rw [hw1]; exact BA.out.alloc BA.out.size _)
  have K0 := Lib.hid (show Blk w1 w.heap.size 46 #[.int .i64 ty, .int .i64 co, .int .u32 wd, .slice A n c] from by rw [hw1]; exact (Blk.new w _ _).alloc _)
  have K1 := Lib.hid (show Blk w1 (w.heap.size + 1) 48 #[.int .i64 0, .bool false, .int .u64 0, .int .u64 0, .bool false, .int .u64 0, .int .u64 0, .int .i64 0, .int .i64 0] from by
    have h9 := Blk.new (w.alloc (.cells #[.int .i64 ty, .int .i64 co, .int .u32 wd, .slice A n c] 46)) 48 #[.int .i64 0, .bool false, .int .u64 0, .int .u64 0, .bool false, .int .u64 0, .int .u64 0, .int .i64 0, .int .i64 0]
    rw [← hw1] at h9
    simpa using h9)
  have SZ1 := Lib.hid (show w1.heap.size = w.heap.size + 2 from by rw [hw1]; simp)
  have TE := Lib.hid (error_all false ty w1)
  rw [ht] at TE
  obtain ⟨g4, hg4⟩ : ∃ g4, g4 = w.heap.size + 1 := ⟨_, rfl⟩
  have EG4 := Lib.hid hg4
  rw [← hg4] at K1
  clear hw1 ht hg4
  subst he
  subst hf
  have p6 : (pr != 6) = true := by simpa using hp.1
  have p17 : (pr != 17) = true := by simpa using hp.2
  clear hp
  have m0 := K0.out.cell 0
  have m3 := K0.out.cell 3
  have r0 := K1.out.cell 0
  have z0 := K1.out.frozen 0
  have r1 := K1.out.cell 1
  have z1 := K1.out.frozen 1
  have r2 := K1.out.cell 2
  have z2 := K1.out.frozen 2
  have r3 := K1.out.cell 3
  have z3 := K1.out.frozen 3
  have r4 := K1.out.cell 4
  have z4 := K1.out.frozen 4
  have r5 := K1.out.cell 5
  have z5 := K1.out.frozen 5
  have r6 := K1.out.cell 6
  have z6 := K1.out.frozen 6
  have r7 := K1.out.cell 7
  have z7 := K1.out.frozen 7
  have r8 := K1.out.cell 8
  have z8 := K1.out.frozen 8
  go_enter Try.func22, Try.ntmps22
  go_upto_region 1 with fail
  rw [← E1.out]
  rw [← EG4.out]
  go_wp2_with fail
  refine TE.out.mono ?_
  rintro o w' ⟨rfl, rfl⟩
  go_wp2_with fail
  refine (HQ.out _ B1.out).mono ?_
  rintro o w2 ⟨hb2, AR, nr, cr, rfl, hnr, hrow⟩
  obtain ⟨w3, hw3⟩ : ∃ w3, w3 = w2.alloc (.cells #[.int .i64 pr, .bool s6, .int .u64 sh, .int .u64 sl, .bool d6, .int .u64 dh, .int .u64 dl, .int .i64 0, .int .i64 0] 48) := ⟨_, rfl⟩
  have E3 := Lib.hid hw3
  have B23 := Lib.hid (show Below w2.heap.size w2 w3 from by rw [hw3]; exact (Below.refl _ _).alloc (Nat.le_refl _) _)
  have B13 := Lib.hid (hb2.trans (B23.out.mono hb2.size))
  have K3 := Lib.hid (show Blk w3 w2.heap.size 48 #[.int .i64 pr, .bool s6, .int .u64 sh, .int .u64 sl, .bool d6, .int .u64 dh, .int .u64 dl, .int .i64 0, .int .i64 0] from by rw [hw3]; exact Blk.new w2 _ _)
  have K13 := Lib.hid (K1.out.below B13.out K1.out.lt)
  have B12 := Lib.hid hb2.size
  have BW3 := Lib.hid (B1.out.trans (B13.out.mono B1.out.size))
  have HNR := Lib.hid hnr
  have HNE := Lib.hid (show g4 ≠ w2.heap.size from by have := hb2.size; have := SZ1.out; have := EG4.out; omega)
  have HG4 := Lib.hid (show w.heap.size ≤ g4 from by have := EG4.out; omega)
  have HRW := Lib.hid (own_below2 hrow B23.out)
  clear hw3 hb2 hrow hnr
  clear r0 r1 r2 r3 r4 r5 r6 r7 r8 z0 z1 z2 z3 z4 z5 z6 z7 z8
  go_upto_region 7 with fail
  rw [← E3.out]
  have q0 := K3.out.cell 0
  have r0 := K13.out.cell 0
  have z0 := K13.out.frozen 0
  have r1 := K13.out.cell 1
  have z1 := K13.out.frozen 1
  have r2 := K13.out.cell 2
  have z2 := K13.out.frozen 2
  have r3 := K13.out.cell 3
  have z3 := K13.out.frozen 3
  have r4 := K13.out.cell 4
  have z4 := K13.out.frozen 4
  have r5 := K13.out.cell 5
  have z5 := K13.out.frozen 5
  have r6 := K13.out.cell 6
  have z6 := K13.out.frozen 6
  have r7 := K13.out.cell 7
  have z7 := K13.out.frozen 7
  have r8 := K13.out.cell 8
  have z8 := K13.out.frozen 8
  go_wp2_with fail
  have OG := tonly w3 g4 (.int .i64 0) (.bool false) (.int .u64 0) (.int .u64 0) (.bool false) (.int .u64 0) (.int .u64 0) (.int .i64 0) (.int .i64 0)
  have KT := tstore w3 g4 (.int .i64 0) (.bool false) (.int .u64 0) (.int .u64 0) (.bool false) (.int .u64 0) (.int .u64 0) (.int .i64 0) (.int .i64 0) _ _ _ _ _ _ _ _ _ K13.out
  refine bodyPost_ret (results_two_q rfl _ _ g4 #[.int .i64 0, .bool false, .int .u64 0, .int .u64 0, .bool false, .int .u64 0, .int .u64 0, .int .i64 0, .int .i64 0] rfl KT rfl) rfl ?_
  exact ⟨rfl, OG.from BW3.out HG4.out⟩
set_option maxHeartbeats 4000000 in
set_option maxRecDepth 100000 in
theorem quoted4_short (ty co wd : Int) (A : Option Addr) (n c : Nat) (f fr pr : Int) (s6 : Bool) (sh sl : Int) (d6 : Bool) (dh dl : Int) (r : List Int) (w : World) (ht : tellsB false ty = true) (he : f = 0) (hf : fr = 0) (hp : pr = 6 ∨ pr = 17) (hr : r.length < 4)
    (HQ : Hid (∀ V, Below w.heap.size w V → Calls Try.prog 50 #[.slice A n c] V (QT f fr pr s6 sh sl d6 dh dl r V))) :
    Calls Try.prog 22 #[.bool false, .agg #[.int .i64 ty, .int .i64 co, .int .u32 wd, .slice A n c]] w fun o w' => o = .returned (.tuple #[.agg #[.int .i64 0, .bool false, .int .u64 0, .int .u64 0, .bool false, .int .u64 0, .int .u64 0, .int .i64 0, .int .i64 0], .int .i64 2]) ∧ Below w.heap.size w w' := by
  obtain ⟨w1, hw1⟩ : ∃ w1, w1 = (w.alloc (.cells #[.int .i64 ty, .int .i64 co, .int .u32 wd, .slice A n c] 46)).alloc (.cells #[.int .i64 0, .bool false, .int .u64 0, .int .u64 0, .bool false, .int .u64 0, .int .u64 0, .int .i64 0, .int .i64 0] 48) := ⟨_, rfl⟩
  have E1 := Lib.hid hw1
  have BA := Lib.hid (show Below w.heap.size w (w.alloc (.cells #[.int .i64 ty, .int .i64 co, .int .u32 wd, .slice A n c] 46)) from (Below.refl _ _).alloc (Nat.le_refl _) _)
  have B1 := Lib.hid (show Below w.heap.size w w1 from by rw [hw1]; exact BA.out.alloc BA.out.size _)
  have K0 := Lib.hid (show Blk w1 w.heap.size 46 #[.int .i64 ty, .int .i64 co, .int .u32 wd, .slice A n c] from by rw [hw1]; exact (Blk.new w _ _).alloc _)
  have K1 := Lib.hid (show Blk w1 (w.heap.size + 1) 48 #[.int .i64 0, .bool false, .int .u64 0, .int .u64 0, .bool false, .int .u64 0, .int .u64 0, .int .i64 0, .int .i64 0] from by
    have h9 := Blk.new (w.alloc (.cells #[.int .i64 ty, .int .i64 co, .int .u32 wd, .slice A n c] 46)) 48 #[.int .i64 0, .bool false, .int .u64 0, .int .u64 0, .bool false, .int .u64 0, .int .u64 0, .int .i64 0, .int .i64 0]
    rw [← hw1] at h9
    simpa using h9)
  have SZ1 := Lib.hid (show w1.heap.size = w.heap.size + 2 from by rw [hw1]; simp)
  have TE := Lib.hid (error_all false ty w1)
  rw [ht] at TE
  obtain ⟨g4, hg4⟩ : ∃ g4, g4 = w.heap.size + 1 := ⟨_, rfl⟩
  have EG4 := Lib.hid hg4
  rw [← hg4] at K1
  clear hw1 ht hg4
  subst he
  subst hf
  have m0 := K0.out.cell 0
  have m3 := K0.out.cell 3
  have r0 := K1.out.cell 0
  have z0 := K1.out.frozen 0
  have r1 := K1.out.cell 1
  have z1 := K1.out.frozen 1
  have r2 := K1.out.cell 2
  have z2 := K1.out.frozen 2
  have r3 := K1.out.cell 3
  have z3 := K1.out.frozen 3
  have r4 := K1.out.cell 4
  have z4 := K1.out.frozen 4
  have r5 := K1.out.cell 5
  have z5 := K1.out.frozen 5
  have r6 := K1.out.cell 6
  have z6 := K1.out.frozen 6
  have r7 := K1.out.cell 7
  have z7 := K1.out.frozen 7
  have r8 := K1.out.cell 8
  have z8 := K1.out.frozen 8
  go_enter Try.func22, Try.ntmps22
  go_upto_region 1 with fail
  rw [← E1.out]
  rw [← EG4.out]
  go_wp2_with fail
  refine TE.out.mono ?_
  rintro o w' ⟨rfl, rfl⟩
  go_wp2_with fail
  refine (HQ.out _ B1.out).mono ?_
  rintro o w2 ⟨hb2, AR, nr, cr, rfl, hnr, hrow⟩
  obtain ⟨w3, hw3⟩ : ∃ w3, w3 = w2.alloc (.cells #[.int .i64 pr, .bool s6, .int .u64 sh, .int .u64 sl, .bool d6, .int .u64 dh, .int .u64 dl, .int .i64 0, .int .i64 0] 48) := ⟨_, rfl⟩
  have E3 := Lib.hid hw3
  have B23 := Lib.hid (show Below w2.heap.size w2 w3 from by rw [hw3]; exact (Below.refl _ _).alloc (Nat.le_refl _) _)
  have B13 := Lib.hid (hb2.trans (B23.out.mono hb2.size))
  have K3 := Lib.hid (show Blk w3 w2.heap.size 48 #[.int .i64 pr, .bool s6, .int .u64 sh, .int .u64 sl, .bool d6, .int .u64 dh, .int .u64 dl, .int .i64 0, .int .i64 0] from by rw [hw3]; exact Blk.new w2 _ _)
  have K13 := Lib.hid (K1.out.below B13.out K1.out.lt)
  have B12 := Lib.hid hb2.size
  have BW3 := Lib.hid (B1.out.trans (B13.out.mono B1.out.size))
  have HNR := Lib.hid hnr
  have HNE := Lib.hid (show g4 ≠ w2.heap.size from by have := hb2.size; have := SZ1.out; have := EG4.out; omega)
  have HG4 := Lib.hid (show w.heap.size ≤ g4 from by have := EG4.out; omega)
  have HRW := Lib.hid (own_below2 hrow B23.out)
  clear hw3 hb2 hrow hnr
  clear r0 r1 r2 r3 r4 r5 r6 r7 r8 z0 z1 z2 z3 z4 z5 z6 z7 z8
  go_upto_region 7 with fail
  rw [← E3.out]
  have q0 := K3.out.cell 0
  have tn : decide ((nr : Int) < 4) = true := decide_eq_true (by have := HNR.out; omega)
  have tnn : decide (nr < 4) = true := decide_eq_true (by have := HNR.out; omega)
  have r0 := K13.out.cell 0
  have z0 := K13.out.frozen 0
  have r1 := K13.out.cell 1
  have z1 := K13.out.frozen 1
  have r2 := K13.out.cell 2
  have z2 := K13.out.frozen 2
  have r3 := K13.out.cell 3
  have z3 := K13.out.frozen 3
  have r4 := K13.out.cell 4
  have z4 := K13.out.frozen 4
  have r5 := K13.out.cell 5
  have z5 := K13.out.frozen 5
  have r6 := K13.out.cell 6
  have z6 := K13.out.frozen 6
  have r7 := K13.out.cell 7
  have z7 := K13.out.frozen 7
  have r8 := K13.out.cell 8
  have z8 := K13.out.frozen 8
  rcases hp with rfl | rfl
  · go_wp2_with fail
    have OG := tonly w3 g4 (.int .i64 0) (.bool false) (.int .u64 0) (.int .u64 0) (.bool false) (.int .u64 0) (.int .u64 0) (.int .i64 0) (.int .i64 0)
    have KT := tstore w3 g4 (.int .i64 0) (.bool false) (.int .u64 0) (.int .u64 0) (.bool false) (.int .u64 0) (.int .u64 0) (.int .i64 0) (.int .i64 0) _ _ _ _ _ _ _ _ _ K13.out
    refine bodyPost_ret (results_two_q rfl _ _ g4 #[.int .i64 0, .bool false, .int .u64 0, .int .u64 0, .bool false, .int .u64 0, .int .u64 0, .int .i64 0, .int .i64 0] rfl KT rfl) rfl ?_
    exact ⟨rfl, OG.from BW3.out HG4.out⟩
  · go_wp2_with fail
    have OG := tonly w3 g4 (.int .i64 0) (.bool false) (.int .u64 0) (.int .u64 0) (.bool false) (.int .u64 0) (.int .u64 0) (.int .i64 0) (.int .i64 0)
    have KT := tstore w3 g4 (.int .i64 0) (.bool false) (.int .u64 0) (.int .u64 0) (.bool false) (.int .u64 0) (.int .u64 0) (.int .i64 0) (.int .i64 0) _ _ _ _ _ _ _ _ _ K13.out
    refine bodyPost_ret (results_two_q rfl _ _ g4 #[.int .i64 0, .bool false, .int .u64 0, .int .u64 0, .bool false, .int .u64 0, .int .u64 0, .int .i64 0, .int .i64 0] rfl KT rfl) rfl ?_
    exact ⟨rfl, OG.from BW3.out HG4.out⟩
set_option maxHeartbeats 4000000 in
set_option maxRecDepth 100000 in
theorem quoted4_good (ty co wd : Int) (A : Option Addr) (n c : Nat) (f fr pr : Int) (s6 : Bool) (sh sl : Int) (d6 : Bool) (dh dl : Int) (r : List Int) (w : World) (ht : tellsB false ty = true) (he : f = 0) (hf : fr = 0) (hp : pr = 6 ∨ pr = 17) (hr : 4 ≤ r.length) (hr2 : r.length ≤ 1000) (hu : U8 r)
    (HQ : Hid (∀ V, Below w.heap.size w V → Calls Try.prog 50 #[.slice A n c] V (QT f fr pr s6 sh sl d6 dh dl r V))) :
    Calls Try.prog 22 #[.bool false, .agg #[.int .i64 ty, .int .i64 co, .int .u32 wd, .slice A n c]] w fun o w' => o = .returned (.tuple #[.agg #[.int .i64 pr, .bool s6, .int .u64 sh, .int .u64 sl, .bool d6, .int .u64 dh, .int .u64 dl, .int .i64 (256 * r.getD 0 0 + r.getD 1 0), .int .i64 (256 * r.getD 2 0 + r.getD 3 0)], .int .i64 0]) ∧ Below w.heap.size w w' := by
  obtain ⟨w1, hw1⟩ : ∃ w1, w1 = (w.alloc (.cells #[.int .i64 ty, .int .i64 co, .int .u32 wd, .slice A n c] 46)).alloc (.cells #[.int .i64 0, .bool false, .int .u64 0, .int .u64 0, .bool false, .int .u64 0, .int .u64 0, .int .i64 0, .int .i64 0] 48) := ⟨_, rfl⟩
  have E1 := Lib.hid hw1
  have BA := Lib.hid (show Below w.heap.size w (w.alloc (.cells #[.int .i64 ty, .int .i64 co, .int .u32 wd, .slice A n c] 46)) from (Below.refl _ _).alloc (Nat.le_refl _) _)
  have B1 := Lib.hid (show Below w.heap.size w w1 from by rw [hw1]; exact BA.out.alloc BA.out.size _)
  have K0 := Lib.hid (show Blk w1 w.heap.size 46 #[.int .i64 ty, .int .i64 co, .int .u32 wd, .slice A n c] from by rw [hw1]; exact (Blk.new w _ _).alloc _)
  have K1 := Lib.hid (show Blk w1 (w.heap.size + 1) 48 #[.int .i64 0, .bool false, .int .u64 0, .int .u64 0, .bool false, .int .u64 0, .int .u64 0, .int .i64 0, .int .i64 0] from by
    have h9 := Blk.new (w.alloc (.cells #[.int .i64 ty, .int .i64 co, .int .u32 wd, .slice A n c] 46)) 48 #[.int .i64 0, .bool false, .int .u64 0, .int .u64 0, .bool false, .int .u64 0, .int .u64 0, .int .i64 0, .int .i64 0]
    rw [← hw1] at h9
    simpa using h9)
  have SZ1 := Lib.hid (show w1.heap.size = w.heap.size + 2 from by rw [hw1]; simp)
  have TE := Lib.hid (error_all false ty w1)
  rw [ht] at TE
  obtain ⟨g4, hg4⟩ : ∃ g4, g4 = w.heap.size + 1 := ⟨_, rfl⟩
  have EG4 := Lib.hid hg4
  rw [← hg4] at K1
  clear hw1 ht hg4
  subst he
  subst hf
  have m0 := K0.out.cell 0
  have m3 := K0.out.cell 3
  have r0 := K1.out.cell 0
  have z0 := K1.out.frozen 0
  have r1 := K1.out.cell 1
  have z1 := K1.out.frozen 1
  have r2 := K1.out.cell 2
  have z2 := K1.out.frozen 2
  have r3 := K1.out.cell 3
  have z3 := K1.out.frozen 3
  have r4 := K1.out.cell 4
  have z4 := K1.out.frozen 4
  have r5 := K1.out.cell 5
  have z5 := K1.out.frozen 5
  have r6 := K1.out.cell 6
  have z6 := K1.out.frozen 6
  have r7 := K1.out.cell 7
  have z7 := K1.out.frozen 7
  have r8 := K1.out.cell 8
  have z8 := K1.out.frozen 8
  go_enter Try.func22, Try.ntmps22
  go_upto_region 1 with fail
  rw [← E1.out]
  rw [← EG4.out]
  go_wp2_with fail
  refine TE.out.mono ?_
  rintro o w' ⟨rfl, rfl⟩
  go_wp2_with fail
  refine (HQ.out _ B1.out).mono ?_
  rintro o w2 ⟨hb2, AR, nr, cr, rfl, hnr, hrow⟩
  obtain ⟨w3, hw3⟩ : ∃ w3, w3 = w2.alloc (.cells #[.int .i64 pr, .bool s6, .int .u64 sh, .int .u64 sl, .bool d6, .int .u64 dh, .int .u64 dl, .int .i64 0, .int .i64 0] 48) := ⟨_, rfl⟩
  have E3 := Lib.hid hw3
  have B23 := Lib.hid (show Below w2.heap.size w2 w3 from by rw [hw3]; exact (Below.refl _ _).alloc (Nat.le_refl _) _)
  have B13 := Lib.hid (hb2.trans (B23.out.mono hb2.size))
  have K3 := Lib.hid (show Blk w3 w2.heap.size 48 #[.int .i64 pr, .bool s6, .int .u64 sh, .int .u64 sl, .bool d6, .int .u64 dh, .int .u64 dl, .int .i64 0, .int .i64 0] from by rw [hw3]; exact Blk.new w2 _ _)
  have K13 := Lib.hid (K1.out.below B13.out K1.out.lt)
  have B12 := Lib.hid hb2.size
  have BW3 := Lib.hid (B1.out.trans (B13.out.mono B1.out.size))
  have HNR := Lib.hid hnr
  have HNE := Lib.hid (show g4 ≠ w2.heap.size from by have := hb2.size; have := SZ1.out; have := EG4.out; omega)
  have HG4 := Lib.hid (show w.heap.size ≤ g4 from by have := EG4.out; omega)
  have HRW := Lib.hid (own_below2 hrow B23.out)
  clear hw3 hb2 hrow hnr
  clear r0 r1 r2 r3 r4 r5 r6 r7 r8 z0 z1 z2 z3 z4 z5 z6 z7 z8
  go_upto_region 7 with fail
  rw [← E3.out]
  have q0 := K3.out.cell 0
  have tn : decide ((nr : Int) < 4) = false := decide_eq_false (by have := HNR.out; omega)
  have tnn : decide (nr < 4) = false := decide_eq_false (by have := HNR.out; omega)
  have u0 := hu.get 0; have u1 := hu.get 1; have u2 := hu.get 2; have u3 := hu.get 3
  obtain ⟨sp, hsp⟩ : ∃ sp, sp = 256 * r.getD 0 0 + r.getD 1 0 := ⟨_, rfl⟩
  obtain ⟨dp, hdp⟩ : ∃ dp, dp = 256 * r.getD 2 0 + r.getD 3 0 := ⟨_, rfl⟩
  have HSP := Lib.hid hsp
  have HDP := Lib.hid hdp
  have HW2 := Lib.hid (show w.heap.size ≤ w2.heap.size from by have := B1.out.size; have := B12.out; omega)
  have hcap := own_cap HRW.out
  have A0 := Lib.hid (show Calls Try.prog 39 #[.slice AR nr cr, .int .i64 0, .int .i64 2] w3 fun e w' => e = .returned (.int .u64 sp) ∧ w3 = w' from by
    rw [hsp]
    exact at_2 0 AR nr cr r w3 HNR.out.symm (by have := HNR.out; omega) hcap.1 hcap.2.1 hcap.2.2 (own_row HRW.out) hu (by omega))
  have A2 := Lib.hid (show Calls Try.prog 39 #[.slice AR nr cr, .int .i64 2, .int .i64 2] w3 fun e w' => e = .returned (.int .u64 dp) ∧ w3 = w' from by
    rw [hdp]
    exact at_2 2 AR nr cr r w3 HNR.out.symm (by have := HNR.out; omega) hcap.1 hcap.2.1 hcap.2.2 (own_row HRW.out) hu (by omega))
  have wsp : IntKind.i64.wrap sp = sp := IntWalk.i64_in _ (by omega)
  have wdp : IntKind.i64.wrap dp = dp := IntWalk.i64_in _ (by omega)
  clear hsp hdp hu hcap u0 u1 u2 u3 hr hr2 q0
  rcases hp with rfl | rfl
  · have q0 := K3.out.cell 0
    have s0_ := K3.out.frozen 0
    have q1 := K3.out.cell 1
    have s1_ := K3.out.frozen 1
    have q2 := K3.out.cell 2
    have s2_ := K3.out.frozen 2
    have q3 := K3.out.cell 3
    have s3_ := K3.out.frozen 3
    have q4 := K3.out.cell 4
    have s4_ := K3.out.frozen 4
    have q5 := K3.out.cell 5
    have s5_ := K3.out.frozen 5
    have q6 := K3.out.cell 6
    have s6_ := K3.out.frozen 6
    have q7 := K3.out.cell 7
    have s7_ := K3.out.frozen 7
    have q8 := K3.out.cell 8
    have s8_ := K3.out.frozen 8
    go_wp2_with fail
    refine A0.out.mono ?_
    rintro o w' ⟨rfl, rfl⟩
    go_wp2_with fail
    refine A2.out.mono ?_
    rintro o w' ⟨rfl, rfl⟩
    have OS : OnlyG w2.heap.size w3 ((w3.setCell ⟨w2.heap.size, 7, none⟩ (.int .i64 sp)).setCell ⟨w2.heap.size, 8, none⟩ (.int .i64 dp)) := ((OnlyG.refl _ _).set 7 _).set 8 _
    have KP : Blk ((w3.setCell ⟨w2.heap.size, 7, none⟩ (.int .i64 sp)).setCell ⟨w2.heap.size, 8, none⟩ (.int .i64 dp)) w2.heap.size 48 #[.int .i64 6, .bool s6, .int .u64 sh, .int .u64 sl, .bool d6, .int .u64 dh, .int .u64 dl, .int .i64 sp, .int .i64 dp] := (K3.out.set_ 7 (.int .i64 sp)).set_ 8 (.int .i64 dp)
    have KQ := OS.blk K13.out HNE.out
    go_upto_region 16 with fail
    obtain ⟨w5, hw5⟩ : ∃ w5, w5 = (w3.setCell ⟨w2.heap.size, 7, none⟩ (.int .i64 sp)).setCell ⟨w2.heap.size, 8, none⟩ (.int .i64 dp) := ⟨_, rfl⟩
    have E5 := Lib.hid hw5
    rw [← hw5] at OS KP KQ
    have B5 := Lib.hid (OS.from BW3.out (by have := B23.out.size; have := HG4.out; have := HW2.out; omega))
    have KP5 := Lib.hid KP
    have KQ5 := Lib.hid KQ
    clear hw5 OS KP KQ q0 q1 q2 q3 q4 q5 q6 q7 q8 s0_ s1_ s2_ s3_ s4_ s5_ s6_ s7_ s8_
    rw [← E5.out]
    have q0 := KP5.out.cell 0
    have t_0 := KP5.out.frozen 0
    have q1 := KP5.out.cell 1
    have t_1 := KP5.out.frozen 1
    have q2 := KP5.out.cell 2
    have t_2 := KP5.out.frozen 2
    have q3 := KP5.out.cell 3
    have t_3 := KP5.out.frozen 3
    have q4 := KP5.out.cell 4
    have t_4 := KP5.out.frozen 4
    have q5 := KP5.out.cell 5
    have t_5 := KP5.out.frozen 5
    have q6 := KP5.out.cell 6
    have t_6 := KP5.out.frozen 6
    have q7 := KP5.out.cell 7
    have t_7 := KP5.out.frozen 7
    have q8 := KP5.out.cell 8
    have t_8 := KP5.out.frozen 8
    have r0 := KQ5.out.cell 0
    have z0 := KQ5.out.frozen 0
    have r1 := KQ5.out.cell 1
    have z1 := KQ5.out.frozen 1
    have r2 := KQ5.out.cell 2
    have z2 := KQ5.out.frozen 2
    have r3 := KQ5.out.cell 3
    have z3 := KQ5.out.frozen 3
    have r4 := KQ5.out.cell 4
    have z4 := KQ5.out.frozen 4
    have r5 := KQ5.out.cell 5
    have z5 := KQ5.out.frozen 5
    have r6 := KQ5.out.cell 6
    have z6 := KQ5.out.frozen 6
    have r7 := KQ5.out.cell 7
    have z7 := KQ5.out.frozen 7
    have r8 := KQ5.out.cell 8
    have z8 := KQ5.out.frozen 8
    go_wp2_with fail
    have OG := tonly w5 g4 (.int .i64 6) (.bool s6) (.int .u64 sh) (.int .u64 sl) (.bool d6) (.int .u64 dh) (.int .u64 dl) (.int .i64 sp) (.int .i64 dp)
    have KT := tstore w5 g4 (.int .i64 6) (.bool s6) (.int .u64 sh) (.int .u64 sl) (.bool d6) (.int .u64 dh) (.int .u64 dl) (.int .i64 sp) (.int .i64 dp) _ _ _ _ _ _ _ _ _ KQ5.out
    refine bodyPost_ret (results_two_q rfl _ _ g4 #[.int .i64 6, .bool s6, .int .u64 sh, .int .u64 sl, .bool d6, .int .u64 dh, .int .u64 dl, .int .i64 sp, .int .i64 dp] rfl KT rfl) rfl ?_
    exact ⟨by rw [HSP.out, HDP.out]; rfl, OG.from B5.out HG4.out⟩
  · have q0 := K3.out.cell 0
    have s0_ := K3.out.frozen 0
    have q1 := K3.out.cell 1
    have s1_ := K3.out.frozen 1
    have q2 := K3.out.cell 2
    have s2_ := K3.out.frozen 2
    have q3 := K3.out.cell 3
    have s3_ := K3.out.frozen 3
    have q4 := K3.out.cell 4
    have s4_ := K3.out.frozen 4
    have q5 := K3.out.cell 5
    have s5_ := K3.out.frozen 5
    have q6 := K3.out.cell 6
    have s6_ := K3.out.frozen 6
    have q7 := K3.out.cell 7
    have s7_ := K3.out.frozen 7
    have q8 := K3.out.cell 8
    have s8_ := K3.out.frozen 8
    go_wp2_with fail
    refine A0.out.mono ?_
    rintro o w' ⟨rfl, rfl⟩
    go_wp2_with fail
    refine A2.out.mono ?_
    rintro o w' ⟨rfl, rfl⟩
    have OS : OnlyG w2.heap.size w3 ((w3.setCell ⟨w2.heap.size, 7, none⟩ (.int .i64 sp)).setCell ⟨w2.heap.size, 8, none⟩ (.int .i64 dp)) := ((OnlyG.refl _ _).set 7 _).set 8 _
    have KP : Blk ((w3.setCell ⟨w2.heap.size, 7, none⟩ (.int .i64 sp)).setCell ⟨w2.heap.size, 8, none⟩ (.int .i64 dp)) w2.heap.size 48 #[.int .i64 17, .bool s6, .int .u64 sh, .int .u64 sl, .bool d6, .int .u64 dh, .int .u64 dl, .int .i64 sp, .int .i64 dp] := (K3.out.set_ 7 (.int .i64 sp)).set_ 8 (.int .i64 dp)
    have KQ := OS.blk K13.out HNE.out
    go_upto_region 16 with fail
    obtain ⟨w5, hw5⟩ : ∃ w5, w5 = (w3.setCell ⟨w2.heap.size, 7, none⟩ (.int .i64 sp)).setCell ⟨w2.heap.size, 8, none⟩ (.int .i64 dp) := ⟨_, rfl⟩
    have E5 := Lib.hid hw5
    rw [← hw5] at OS KP KQ
    have B5 := Lib.hid (OS.from BW3.out (by have := B23.out.size; have := HG4.out; have := HW2.out; omega))
    have KP5 := Lib.hid KP
    have KQ5 := Lib.hid KQ
    clear hw5 OS KP KQ q0 q1 q2 q3 q4 q5 q6 q7 q8 s0_ s1_ s2_ s3_ s4_ s5_ s6_ s7_ s8_
    rw [← E5.out]
    have q0 := KP5.out.cell 0
    have t_0 := KP5.out.frozen 0
    have q1 := KP5.out.cell 1
    have t_1 := KP5.out.frozen 1
    have q2 := KP5.out.cell 2
    have t_2 := KP5.out.frozen 2
    have q3 := KP5.out.cell 3
    have t_3 := KP5.out.frozen 3
    have q4 := KP5.out.cell 4
    have t_4 := KP5.out.frozen 4
    have q5 := KP5.out.cell 5
    have t_5 := KP5.out.frozen 5
    have q6 := KP5.out.cell 6
    have t_6 := KP5.out.frozen 6
    have q7 := KP5.out.cell 7
    have t_7 := KP5.out.frozen 7
    have q8 := KP5.out.cell 8
    have t_8 := KP5.out.frozen 8
    have r0 := KQ5.out.cell 0
    have z0 := KQ5.out.frozen 0
    have r1 := KQ5.out.cell 1
    have z1 := KQ5.out.frozen 1
    have r2 := KQ5.out.cell 2
    have z2 := KQ5.out.frozen 2
    have r3 := KQ5.out.cell 3
    have z3 := KQ5.out.frozen 3
    have r4 := KQ5.out.cell 4
    have z4 := KQ5.out.frozen 4
    have r5 := KQ5.out.cell 5
    have z5 := KQ5.out.frozen 5
    have r6 := KQ5.out.cell 6
    have z6 := KQ5.out.frozen 6
    have r7 := KQ5.out.cell 7
    have z7 := KQ5.out.frozen 7
    have r8 := KQ5.out.cell 8
    have z8 := KQ5.out.frozen 8
    go_wp2_with fail
    have OG := tonly w5 g4 (.int .i64 17) (.bool s6) (.int .u64 sh) (.int .u64 sl) (.bool d6) (.int .u64 dh) (.int .u64 dl) (.int .i64 sp) (.int .i64 dp)
    have KT := tstore w5 g4 (.int .i64 17) (.bool s6) (.int .u64 sh) (.int .u64 sl) (.bool d6) (.int .u64 dh) (.int .u64 dl) (.int .i64 sp) (.int .i64 dp) _ _ _ _ _ _ _ _ _ KQ5.out
    refine bodyPost_ret (results_two_q rfl _ _ g4 #[.int .i64 17, .bool s6, .int .u64 sh, .int .u64 sl, .bool d6, .int .u64 dh, .int .u64 dl, .int .i64 sp, .int .i64 dp] rfl KT rfl) rfl ?_
    exact ⟨by rw [HSP.out, HDP.out]; rfl, OG.from B5.out HG4.out⟩
set_option maxHeartbeats 4000000 in
set_option maxRecDepth 100000 in
theorem quoted6_not (ty co wd : Int) (A : Option Addr) (n c : Nat) (f fr pr : Int) (s6 : Bool) (sh sl : Int) (d6 : Bool) (dh dl : Int) (r : List Int) (w : World) (ht : tellsB true ty = false) :
    Calls Try.prog 22 #[.bool true, .agg #[.int .i64 ty, .int .i64 co, .int .u32 wd, .slice A n c]] w fun o w' => o = .returned (.tuple #[.agg #[.int .i64 0, .bool false, .int .u64 0, .int .u64 0, .bool false, .int .u64 0, .int .u64 0, .int .i64 0, .int .i64 0], .int .i64 24]) ∧ Below w.heap.size w w' := by
  obtain ⟨w1, hw1⟩ : ∃ w1, w1 = (w.alloc (.cells #[.int .i64 ty, .int .i64 co, .int .u32 wd, .slice A n c] 46)).alloc (.cells #[.int .i64 0, .bool false, .int .u64 0, .int .u64 0, .bool false, .int .u64 0, .int .u64 0, .int .i64 0, .int .i64 0] 48) := ⟨_, rfl⟩
  have E1 := Lib.hid hw1
  have BA := Lib.hid (show Below w.heap.size w (w.alloc (.cells #[.int .i64 ty, .int .i64 co, .int .u32 wd, .slice A n c] 46)) from (Below.refl _ _).alloc (Nat.le_refl _) _)
  have B1 := Lib.hid (show Below w.heap.size w w1 from by rw [hw1]; exact BA.out.alloc BA.out.size _)
  have K0 := Lib.hid (show Blk w1 w.heap.size 46 #[.int .i64 ty, .int .i64 co, .int .u32 wd, .slice A n c] from by rw [hw1]; exact (Blk.new w _ _).alloc _)
  have K1 := Lib.hid (show Blk w1 (w.heap.size + 1) 48 #[.int .i64 0, .bool false, .int .u64 0, .int .u64 0, .bool false, .int .u64 0, .int .u64 0, .int .i64 0, .int .i64 0] from by
    have h9 := Blk.new (w.alloc (.cells #[.int .i64 ty, .int .i64 co, .int .u32 wd, .slice A n c] 46)) 48 #[.int .i64 0, .bool false, .int .u64 0, .int .u64 0, .bool false, .int .u64 0, .int .u64 0, .int .i64 0, .int .i64 0]
    rw [← hw1] at h9
    simpa using h9)
  have SZ1 := Lib.hid (show w1.heap.size = w.heap.size + 2 from by rw [hw1]; simp)
  have TE := Lib.hid (error_all true ty w1)
  rw [ht] at TE
  obtain ⟨g4, hg4⟩ : ∃ g4, g4 = w.heap.size + 1 := ⟨_, rfl⟩
  have EG4 := Lib.hid hg4
  rw [← hg4] at K1
  clear hw1 ht hg4
  have m0 := K0.out.cell 0
  have m3 := K0.out.cell 3
  have r0 := K1.out.cell 0
  have z0 := K1.out.frozen 0
  have r1 := K1.out.cell 1
  have z1 := K1.out.frozen 1
  have r2 := K1.out.cell 2
  have z2 := K1.out.frozen 2
  have r3 := K1.out.cell 3
  have z3 := K1.out.frozen 3
  have r4 := K1.out.cell 4
  have z4 := K1.out.frozen 4
  have r5 := K1.out.cell 5
  have z5 := K1.out.frozen 5
  have r6 := K1.out.cell 6
  have z6 := K1.out.frozen 6
  have r7 := K1.out.cell 7
  have z7 := K1.out.frozen 7
  have r8 := K1.out.cell 8
  have z8 := K1.out.frozen 8
  go_enter Try.func22, Try.ntmps22
  go_upto_region 1 with fail
  rw [← E1.out]
  rw [← EG4.out]
  go_wp2_with fail
  refine TE.out.mono ?_
  rintro o w' ⟨rfl, rfl⟩
  go_wp2_with fail
  have OG := tonly w1 g4 (.int .i64 0) (.bool false) (.int .u64 0) (.int .u64 0) (.bool false) (.int .u64 0) (.int .u64 0) (.int .i64 0) (.int .i64 0)
  have KT := tstore w1 g4 (.int .i64 0) (.bool false) (.int .u64 0) (.int .u64 0) (.bool false) (.int .u64 0) (.int .u64 0) (.int .i64 0) (.int .i64 0) _ _ _ _ _ _ _ _ _ K1.out
  refine bodyPost_ret (results_two_q rfl _ _ g4 #[.int .i64 0, .bool false, .int .u64 0, .int .u64 0, .bool false, .int .u64 0, .int .u64 0, .int .i64 0, .int .i64 0] rfl KT rfl) rfl ?_
  exact ⟨rfl, OG.from B1.out (by have := EG4.out; omega)⟩
set_option maxHeartbeats 4000000 in
set_option maxRecDepth 100000 in
theorem quoted6_err (ty co wd : Int) (A : Option Addr) (n c : Nat) (f fr pr : Int) (s6 : Bool) (sh sl : Int) (d6 : Bool) (dh dl : Int) (r : List Int) (w : World) (ht : tellsB true ty = true) (he : f ≠ 0)
    (HQ : Hid (∀ V, Below w.heap.size w V → Calls Try.prog 51 #[.slice A n c] V (QT f fr pr s6 sh sl d6 dh dl r V))) :
    Calls Try.prog 22 #[.bool true, .agg #[.int .i64 ty, .int .i64 co, .int .u32 wd, .slice A n c]] w fun o w' => o = .returned (.tuple #[.agg #[.int .i64 0, .bool false, .int .u64 0, .int .u64 0, .bool false, .int .u64 0, .int .u64 0, .int .i64 0, .int .i64 0], .int .i64 f]) ∧ Below w.heap.size w w' := by
  obtain ⟨w1, hw1⟩ : ∃ w1, w1 = (w.alloc (.cells #[.int .i64 ty, .int .i64 co, .int .u32 wd, .slice A n c] 46)).alloc (.cells #[.int .i64 0, .bool false, .int .u64 0, .int .u64 0, .bool false, .int .u64 0, .int .u64 0, .int .i64 0, .int .i64 0] 48) := ⟨_, rfl⟩
  have E1 := Lib.hid hw1
  have BA := Lib.hid (show Below w.heap.size w (w.alloc (.cells #[.int .i64 ty, .int .i64 co, .int .u32 wd, .slice A n c] 46)) from (Below.refl _ _).alloc (Nat.le_refl _) _)
  have B1 := Lib.hid (show Below w.heap.size w w1 from by rw [hw1]; exact BA.out.alloc BA.out.size _)
  have K0 := Lib.hid (show Blk w1 w.heap.size 46 #[.int .i64 ty, .int .i64 co, .int .u32 wd, .slice A n c] from by rw [hw1]; exact (Blk.new w _ _).alloc _)
  have K1 := Lib.hid (show Blk w1 (w.heap.size + 1) 48 #[.int .i64 0, .bool false, .int .u64 0, .int .u64 0, .bool false, .int .u64 0, .int .u64 0, .int .i64 0, .int .i64 0] from by
    have h9 := Blk.new (w.alloc (.cells #[.int .i64 ty, .int .i64 co, .int .u32 wd, .slice A n c] 46)) 48 #[.int .i64 0, .bool false, .int .u64 0, .int .u64 0, .bool false, .int .u64 0, .int .u64 0, .int .i64 0, .int .i64 0]
    rw [← hw1] at h9
    simpa using h9)
  have SZ1 := Lib.hid (show w1.heap.size = w.heap.size + 2 from by rw [hw1]; simp)
  have TE := Lib.hid (error_all true ty w1)
  rw [ht] at TE
  obtain ⟨g4, hg4⟩ : ∃ g4, g4 = w.heap.size + 1 := ⟨_, rfl⟩
  have EG4 := Lib.hid hg4
  rw [← hg4] at K1
  clear hw1 ht hg4
  have te : (f != 0) = true := by simpa using he
  clear he
  have m0 := K0.out.cell 0
  have m3 := K0.out.cell 3
  have r0 := K1.out.cell 0
  have z0 := K1.out.frozen 0
  have r1 := K1.out.cell 1
  have z1 := K1.out.frozen 1
  have r2 := K1.out.cell 2
  have z2 := K1.out.frozen 2
  have r3 := K1.out.cell 3
  have z3 := K1.out.frozen 3
  have r4 := K1.out.cell 4
  have z4 := K1.out.frozen 4
  have r5 := K1.out.cell 5
  have z5 := K1.out.frozen 5
  have r6 := K1.out.cell 6
  have z6 := K1.out.frozen 6
  have r7 := K1.out.cell 7
  have z7 := K1.out.frozen 7
  have r8 := K1.out.cell 8
  have z8 := K1.out.frozen 8
  go_enter Try.func22, Try.ntmps22
  go_upto_region 1 with fail
  rw [← E1.out]
  rw [← EG4.out]
  go_wp2_with fail
  refine TE.out.mono ?_
  rintro o w' ⟨rfl, rfl⟩
  go_wp2_with fail
  refine (HQ.out _ B1.out).mono ?_
  rintro o w2 ⟨hb2, AR, nr, cr, rfl, hnr, hrow⟩
  obtain ⟨w3, hw3⟩ : ∃ w3, w3 = w2.alloc (.cells #[.int .i64 pr, .bool s6, .int .u64 sh, .int .u64 sl, .bool d6, .int .u64 dh, .int .u64 dl, .int .i64 0, .int .i64 0] 48) := ⟨_, rfl⟩
  have E3 := Lib.hid hw3
  have B23 := Lib.hid (show Below w2.heap.size w2 w3 from by rw [hw3]; exact (Below.refl _ _).alloc (Nat.le_refl _) _)
  have B13 := Lib.hid (hb2.trans (B23.out.mono hb2.size))
  have K3 := Lib.hid (show Blk w3 w2.heap.size 48 #[.int .i64 pr, .bool s6, .int .u64 sh, .int .u64 sl, .bool d6, .int .u64 dh, .int .u64 dl, .int .i64 0, .int .i64 0] from by rw [hw3]; exact Blk.new w2 _ _)
  have K13 := Lib.hid (K1.out.below B13.out K1.out.lt)
  have B12 := Lib.hid hb2.size
  have BW3 := Lib.hid (B1.out.trans (B13.out.mono B1.out.size))
  have HNR := Lib.hid hnr
  have HNE := Lib.hid (show g4 ≠ w2.heap.size from by have := hb2.size; have := SZ1.out; have := EG4.out; omega)
  have HG4 := Lib.hid (show w.heap.size ≤ g4 from by have := EG4.out; omega)
  have HRW := Lib.hid (own_below2 hrow B23.out)
  clear hw3 hb2 hrow hnr
  clear r0 r1 r2 r3 r4 r5 r6 r7 r8 z0 z1 z2 z3 z4 z5 z6 z7 z8
  go_upto_region 7 with fail
  rw [← E3.out]
  have r0 := K13.out.cell 0
  have z0 := K13.out.frozen 0
  have r1 := K13.out.cell 1
  have z1 := K13.out.frozen 1
  have r2 := K13.out.cell 2
  have z2 := K13.out.frozen 2
  have r3 := K13.out.cell 3
  have z3 := K13.out.frozen 3
  have r4 := K13.out.cell 4
  have z4 := K13.out.frozen 4
  have r5 := K13.out.cell 5
  have z5 := K13.out.frozen 5
  have r6 := K13.out.cell 6
  have z6 := K13.out.frozen 6
  have r7 := K13.out.cell 7
  have z7 := K13.out.frozen 7
  have r8 := K13.out.cell 8
  have z8 := K13.out.frozen 8
  go_wp2_with fail
  have OG := tonly w3 g4 (.int .i64 0) (.bool false) (.int .u64 0) (.int .u64 0) (.bool false) (.int .u64 0) (.int .u64 0) (.int .i64 0) (.int .i64 0)
  have KT := tstore w3 g4 (.int .i64 0) (.bool false) (.int .u64 0) (.int .u64 0) (.bool false) (.int .u64 0) (.int .u64 0) (.int .i64 0) (.int .i64 0) _ _ _ _ _ _ _ _ _ K13.out
  refine bodyPost_ret (results_two_q rfl _ _ g4 #[.int .i64 0, .bool false, .int .u64 0, .int .u64 0, .bool false, .int .u64 0, .int .u64 0, .int .i64 0, .int .i64 0] rfl KT rfl) rfl ?_
  exact ⟨rfl, OG.from BW3.out HG4.out⟩
set_option maxHeartbeats 4000000 in
set_option maxRecDepth 100000 in
theorem quoted6_frag (ty co wd : Int) (A : Option Addr) (n c : Nat) (f fr pr : Int) (s6 : Bool) (sh sl : Int) (d6 : Bool) (dh dl : Int) (r : List Int) (w : World) (ht : tellsB true ty = true) (he : f = 0) (hf : fr ≠ 0)
    (HQ : Hid (∀ V, Below w.heap.size w V → Calls Try.prog 51 #[.slice A n c] V (QT f fr pr s6 sh sl d6 dh dl r V))) :
    Calls Try.prog 22 #[.bool true, .agg #[.int .i64 ty, .int .i64 co, .int .u32 wd, .slice A n c]] w fun o w' => o = .returned (.tuple #[.agg #[.int .i64 0, .bool false, .int .u64 0, .int .u64 0, .bool false, .int .u64 0, .int .u64 0, .int .i64 0, .int .i64 0], .int .i64 21]) ∧ Below w.heap.size w w' := by
  obtain ⟨w1, hw1⟩ : ∃ w1, w1 = (w.alloc (.cells #[.int .i64 ty, .int .i64 co, .int .u32 wd, .slice A n c] 46)).alloc (.cells #[.int .i64 0, .bool false, .int .u64 0, .int .u64 0, .bool false, .int .u64 0, .int .u64 0, .int .i64 0, .int .i64 0] 48) := ⟨_, rfl⟩
  have E1 := Lib.hid hw1
  have BA := Lib.hid (show Below w.heap.size w (w.alloc (.cells #[.int .i64 ty, .int .i64 co, .int .u32 wd, .slice A n c] 46)) from (Below.refl _ _).alloc (Nat.le_refl _) _)
  have B1 := Lib.hid (show Below w.heap.size w w1 from by rw [hw1]; exact BA.out.alloc BA.out.size _)
  have K0 := Lib.hid (show Blk w1 w.heap.size 46 #[.int .i64 ty, .int .i64 co, .int .u32 wd, .slice A n c] from by rw [hw1]; exact (Blk.new w _ _).alloc _)
  have K1 := Lib.hid (show Blk w1 (w.heap.size + 1) 48 #[.int .i64 0, .bool false, .int .u64 0, .int .u64 0, .bool false, .int .u64 0, .int .u64 0, .int .i64 0, .int .i64 0] from by
    have h9 := Blk.new (w.alloc (.cells #[.int .i64 ty, .int .i64 co, .int .u32 wd, .slice A n c] 46)) 48 #[.int .i64 0, .bool false, .int .u64 0, .int .u64 0, .bool false, .int .u64 0, .int .u64 0, .int .i64 0, .int .i64 0]
    rw [← hw1] at h9
    simpa using h9)
  have SZ1 := Lib.hid (show w1.heap.size = w.heap.size + 2 from by rw [hw1]; simp)
  have TE := Lib.hid (error_all true ty w1)
  rw [ht] at TE
  obtain ⟨g4, hg4⟩ : ∃ g4, g4 = w.heap.size + 1 := ⟨_, rfl⟩
  have EG4 := Lib.hid hg4
  rw [← hg4] at K1
  clear hw1 ht hg4
  subst he
  have tf : (fr != 0) = true := by simpa using hf
  clear hf
  have m0 := K0.out.cell 0
  have m3 := K0.out.cell 3
  have r0 := K1.out.cell 0
  have z0 := K1.out.frozen 0
  have r1 := K1.out.cell 1
  have z1 := K1.out.frozen 1
  have r2 := K1.out.cell 2
  have z2 := K1.out.frozen 2
  have r3 := K1.out.cell 3
  have z3 := K1.out.frozen 3
  have r4 := K1.out.cell 4
  have z4 := K1.out.frozen 4
  have r5 := K1.out.cell 5
  have z5 := K1.out.frozen 5
  have r6 := K1.out.cell 6
  have z6 := K1.out.frozen 6
  have r7 := K1.out.cell 7
  have z7 := K1.out.frozen 7
  have r8 := K1.out.cell 8
  have z8 := K1.out.frozen 8
  go_enter Try.func22, Try.ntmps22
  go_upto_region 1 with fail
  rw [← E1.out]
  rw [← EG4.out]
  go_wp2_with fail
  refine TE.out.mono ?_
  rintro o w' ⟨rfl, rfl⟩
  go_wp2_with fail
  refine (HQ.out _ B1.out).mono ?_
  rintro o w2 ⟨hb2, AR, nr, cr, rfl, hnr, hrow⟩
  obtain ⟨w3, hw3⟩ : ∃ w3, w3 = w2.alloc (.cells #[.int .i64 pr, .bool s6, .int .u64 sh, .int .u64 sl, .bool d6, .int .u64 dh, .int .u64 dl, .int .i64 0, .int .i64 0] 48) := ⟨_, rfl⟩
  have E3 := Lib.hid hw3
  have B23 := Lib.hid (show Below w2.heap.size w2 w3 from by rw [hw3]; exact (Below.refl _ _).alloc (Nat.le_refl _) _)
  have B13 := Lib.hid (hb2.trans (B23.out.mono hb2.size))
  have K3 := Lib.hid (show Blk w3 w2.heap.size 48 #[.int .i64 pr, .bool s6, .int .u64 sh, .int .u64 sl, .bool d6, .int .u64 dh, .int .u64 dl, .int .i64 0, .int .i64 0] from by rw [hw3]; exact Blk.new w2 _ _)
  have K13 := Lib.hid (K1.out.below B13.out K1.out.lt)
  have B12 := Lib.hid hb2.size
  have BW3 := Lib.hid (B1.out.trans (B13.out.mono B1.out.size))
  have HNR := Lib.hid hnr
  have HNE := Lib.hid (show g4 ≠ w2.heap.size from by have := hb2.size; have := SZ1.out; have := EG4.out; omega)
  have HG4 := Lib.hid (show w.heap.size ≤ g4 from by have := EG4.out; omega)
  have HRW := Lib.hid (own_below2 hrow B23.out)
  clear hw3 hb2 hrow hnr
  clear r0 r1 r2 r3 r4 r5 r6 r7 r8 z0 z1 z2 z3 z4 z5 z6 z7 z8
  go_upto_region 7 with fail
  rw [← E3.out]
  have r0 := K13.out.cell 0
  have z0 := K13.out.frozen 0
  have r1 := K13.out.cell 1
  have z1 := K13.out.frozen 1
  have r2 := K13.out.cell 2
  have z2 := K13.out.frozen 2
  have r3 := K13.out.cell 3
  have z3 := K13.out.frozen 3
  have r4 := K13.out.cell 4
  have z4 := K13.out.frozen 4
  have r5 := K13.out.cell 5
  have z5 := K13.out.frozen 5
  have r6 := K13.out.cell 6
  have z6 := K13.out.frozen 6
  have r7 := K13.out.cell 7
  have z7 := K13.out.frozen 7
  have r8 := K13.out.cell 8
  have z8 := K13.out.frozen 8
  go_wp2_with fail
  have OG := tonly w3 g4 (.int .i64 0) (.bool false) (.int .u64 0) (.int .u64 0) (.bool false) (.int .u64 0) (.int .u64 0) (.int .i64 0) (.int .i64 0)
  have KT := tstore w3 g4 (.int .i64 0) (.bool false) (.int .u64 0) (.int .u64 0) (.bool false) (.int .u64 0) (.int .u64 0) (.int .i64 0) (.int .i64 0) _ _ _ _ _ _ _ _ _ K13.out
  refine bodyPost_ret (results_two_q rfl _ _ g4 #[.int .i64 0, .bool false, .int .u64 0, .int .u64 0, .bool false, .int .u64 0, .int .u64 0, .int .i64 0, .int .i64 0] rfl KT rfl) rfl ?_
  exact ⟨rfl, OG.from BW3.out HG4.out⟩
set_option maxHeartbeats 4000000 in
set_option maxRecDepth 100000 in
theorem quoted6_proto (ty co wd : Int) (A : Option Addr) (n c : Nat) (f fr pr : Int) (s6 : Bool) (sh sl : Int) (d6 : Bool) (dh dl : Int) (r : List Int) (w : World) (ht : tellsB true ty = true) (he : f = 0) (hf : fr = 0) (hp : pr ≠ 6 ∧ pr ≠ 17)
    (HQ : Hid (∀ V, Below w.heap.size w V → Calls Try.prog 51 #[.slice A n c] V (QT f fr pr s6 sh sl d6 dh dl r V))) :
    Calls Try.prog 22 #[.bool true, .agg #[.int .i64 ty, .int .i64 co, .int .u32 wd, .slice A n c]] w fun o w' => o = .returned (.tuple #[.agg #[.int .i64 0, .bool false, .int .u64 0, .int .u64 0, .bool false, .int .u64 0, .int .u64 0, .int .i64 0, .int .i64 0], .int .i64 14]) ∧ Below w.heap.size w w' := by
  obtain ⟨w1, hw1⟩ : ∃ w1, w1 = (w.alloc (.cells #[.int .i64 ty, .int .i64 co, .int .u32 wd, .slice A n c] 46)).alloc (.cells #[.int .i64 0, .bool false, .int .u64 0, .int .u64 0, .bool false, .int .u64 0, .int .u64 0, .int .i64 0, .int .i64 0] 48) := ⟨_, rfl⟩
  have E1 := Lib.hid hw1
  have BA := Lib.hid (show Below w.heap.size w (w.alloc (.cells #[.int .i64 ty, .int .i64 co, .int .u32 wd, .slice A n c] 46)) from (Below.refl _ _).alloc (Nat.le_refl _) _)
  have B1 := Lib.hid (show Below w.heap.size w w1 from by rw [hw1]; exact BA.out.alloc BA.out.size _)
  have K0 := Lib.hid (show Blk w1 w.heap.size 46 #[.int .i64 ty, .int .i64 co, .int .u32 wd, .slice A n c] from by rw [hw1]; exact (Blk.new w _ _).alloc _)
  have K1 := Lib.hid (show Blk w1 (w.heap.size + 1) 48 #[.int .i64 0, .bool false, .int .u64 0, .int .u64 0, .bool false, .int .u64 0, .int .u64 0, .int .i64 0, .int .i64 0] from by
    have h9 := Blk.new (w.alloc (.cells #[.int .i64 ty, .int .i64 co, .int .u32 wd, .slice A n c] 46)) 48 #[.int .i64 0, .bool false, .int .u64 0, .int .u64 0, .bool false, .int .u64 0, .int .u64 0, .int .i64 0, .int .i64 0]
    rw [← hw1] at h9
    simpa using h9)
  have SZ1 := Lib.hid (show w1.heap.size = w.heap.size + 2 from by rw [hw1]; simp)
  have TE := Lib.hid (error_all true ty w1)
  rw [ht] at TE
  obtain ⟨g4, hg4⟩ : ∃ g4, g4 = w.heap.size + 1 := ⟨_, rfl⟩
  have EG4 := Lib.hid hg4
  rw [← hg4] at K1
  clear hw1 ht hg4
  subst he
  subst hf
  have p6 : (pr != 6) = true := by simpa using hp.1
  have p17 : (pr != 17) = true := by simpa using hp.2
  clear hp
  have m0 := K0.out.cell 0
  have m3 := K0.out.cell 3
  have r0 := K1.out.cell 0
  have z0 := K1.out.frozen 0
  have r1 := K1.out.cell 1
  have z1 := K1.out.frozen 1
  have r2 := K1.out.cell 2
  have z2 := K1.out.frozen 2
  have r3 := K1.out.cell 3
  have z3 := K1.out.frozen 3
  have r4 := K1.out.cell 4
  have z4 := K1.out.frozen 4
  have r5 := K1.out.cell 5
  have z5 := K1.out.frozen 5
  have r6 := K1.out.cell 6
  have z6 := K1.out.frozen 6
  have r7 := K1.out.cell 7
  have z7 := K1.out.frozen 7
  have r8 := K1.out.cell 8
  have z8 := K1.out.frozen 8
  go_enter Try.func22, Try.ntmps22
  go_upto_region 1 with fail
  rw [← E1.out]
  rw [← EG4.out]
  go_wp2_with fail
  refine TE.out.mono ?_
  rintro o w' ⟨rfl, rfl⟩
  go_wp2_with fail
  refine (HQ.out _ B1.out).mono ?_
  rintro o w2 ⟨hb2, AR, nr, cr, rfl, hnr, hrow⟩
  obtain ⟨w3, hw3⟩ : ∃ w3, w3 = w2.alloc (.cells #[.int .i64 pr, .bool s6, .int .u64 sh, .int .u64 sl, .bool d6, .int .u64 dh, .int .u64 dl, .int .i64 0, .int .i64 0] 48) := ⟨_, rfl⟩
  have E3 := Lib.hid hw3
  have B23 := Lib.hid (show Below w2.heap.size w2 w3 from by rw [hw3]; exact (Below.refl _ _).alloc (Nat.le_refl _) _)
  have B13 := Lib.hid (hb2.trans (B23.out.mono hb2.size))
  have K3 := Lib.hid (show Blk w3 w2.heap.size 48 #[.int .i64 pr, .bool s6, .int .u64 sh, .int .u64 sl, .bool d6, .int .u64 dh, .int .u64 dl, .int .i64 0, .int .i64 0] from by rw [hw3]; exact Blk.new w2 _ _)
  have K13 := Lib.hid (K1.out.below B13.out K1.out.lt)
  have B12 := Lib.hid hb2.size
  have BW3 := Lib.hid (B1.out.trans (B13.out.mono B1.out.size))
  have HNR := Lib.hid hnr
  have HNE := Lib.hid (show g4 ≠ w2.heap.size from by have := hb2.size; have := SZ1.out; have := EG4.out; omega)
  have HG4 := Lib.hid (show w.heap.size ≤ g4 from by have := EG4.out; omega)
  have HRW := Lib.hid (own_below2 hrow B23.out)
  clear hw3 hb2 hrow hnr
  clear r0 r1 r2 r3 r4 r5 r6 r7 r8 z0 z1 z2 z3 z4 z5 z6 z7 z8
  go_upto_region 7 with fail
  rw [← E3.out]
  have q0 := K3.out.cell 0
  have r0 := K13.out.cell 0
  have z0 := K13.out.frozen 0
  have r1 := K13.out.cell 1
  have z1 := K13.out.frozen 1
  have r2 := K13.out.cell 2
  have z2 := K13.out.frozen 2
  have r3 := K13.out.cell 3
  have z3 := K13.out.frozen 3
  have r4 := K13.out.cell 4
  have z4 := K13.out.frozen 4
  have r5 := K13.out.cell 5
  have z5 := K13.out.frozen 5
  have r6 := K13.out.cell 6
  have z6 := K13.out.frozen 6
  have r7 := K13.out.cell 7
  have z7 := K13.out.frozen 7
  have r8 := K13.out.cell 8
  have z8 := K13.out.frozen 8
  go_wp2_with fail
  have OG := tonly w3 g4 (.int .i64 0) (.bool false) (.int .u64 0) (.int .u64 0) (.bool false) (.int .u64 0) (.int .u64 0) (.int .i64 0) (.int .i64 0)
  have KT := tstore w3 g4 (.int .i64 0) (.bool false) (.int .u64 0) (.int .u64 0) (.bool false) (.int .u64 0) (.int .u64 0) (.int .i64 0) (.int .i64 0) _ _ _ _ _ _ _ _ _ K13.out
  refine bodyPost_ret (results_two_q rfl _ _ g4 #[.int .i64 0, .bool false, .int .u64 0, .int .u64 0, .bool false, .int .u64 0, .int .u64 0, .int .i64 0, .int .i64 0] rfl KT rfl) rfl ?_
  exact ⟨rfl, OG.from BW3.out HG4.out⟩
set_option maxHeartbeats 4000000 in
set_option maxRecDepth 100000 in
theorem quoted6_short (ty co wd : Int) (A : Option Addr) (n c : Nat) (f fr pr : Int) (s6 : Bool) (sh sl : Int) (d6 : Bool) (dh dl : Int) (r : List Int) (w : World) (ht : tellsB true ty = true) (he : f = 0) (hf : fr = 0) (hp : pr = 6 ∨ pr = 17) (hr : r.length < 4)
    (HQ : Hid (∀ V, Below w.heap.size w V → Calls Try.prog 51 #[.slice A n c] V (QT f fr pr s6 sh sl d6 dh dl r V))) :
    Calls Try.prog 22 #[.bool true, .agg #[.int .i64 ty, .int .i64 co, .int .u32 wd, .slice A n c]] w fun o w' => o = .returned (.tuple #[.agg #[.int .i64 0, .bool false, .int .u64 0, .int .u64 0, .bool false, .int .u64 0, .int .u64 0, .int .i64 0, .int .i64 0], .int .i64 2]) ∧ Below w.heap.size w w' := by
  obtain ⟨w1, hw1⟩ : ∃ w1, w1 = (w.alloc (.cells #[.int .i64 ty, .int .i64 co, .int .u32 wd, .slice A n c] 46)).alloc (.cells #[.int .i64 0, .bool false, .int .u64 0, .int .u64 0, .bool false, .int .u64 0, .int .u64 0, .int .i64 0, .int .i64 0] 48) := ⟨_, rfl⟩
  have E1 := Lib.hid hw1
  have BA := Lib.hid (show Below w.heap.size w (w.alloc (.cells #[.int .i64 ty, .int .i64 co, .int .u32 wd, .slice A n c] 46)) from (Below.refl _ _).alloc (Nat.le_refl _) _)
  have B1 := Lib.hid (show Below w.heap.size w w1 from by rw [hw1]; exact BA.out.alloc BA.out.size _)
  have K0 := Lib.hid (show Blk w1 w.heap.size 46 #[.int .i64 ty, .int .i64 co, .int .u32 wd, .slice A n c] from by rw [hw1]; exact (Blk.new w _ _).alloc _)
  have K1 := Lib.hid (show Blk w1 (w.heap.size + 1) 48 #[.int .i64 0, .bool false, .int .u64 0, .int .u64 0, .bool false, .int .u64 0, .int .u64 0, .int .i64 0, .int .i64 0] from by
    have h9 := Blk.new (w.alloc (.cells #[.int .i64 ty, .int .i64 co, .int .u32 wd, .slice A n c] 46)) 48 #[.int .i64 0, .bool false, .int .u64 0, .int .u64 0, .bool false, .int .u64 0, .int .u64 0, .int .i64 0, .int .i64 0]
    rw [← hw1] at h9
    simpa using h9)
  have SZ1 := Lib.hid (show w1.heap.size = w.heap.size + 2 from by rw [hw1]; simp)
  have TE := Lib.hid (error_all true ty w1)
  rw [ht] at TE
  obtain ⟨g4, hg4⟩ : ∃ g4, g4 = w.heap.size + 1 := ⟨_, rfl⟩
  have EG4 := Lib.hid hg4
  rw [← hg4] at K1
  clear hw1 ht hg4
  subst he
  subst hf
  have m0 := K0.out.cell 0
  have m3 := K0.out.cell 3
  have r0 := K1.out.cell 0
  have z0 := K1.out.frozen 0
  have r1 := K1.out.cell 1
  have z1 := K1.out.frozen 1
  have r2 := K1.out.cell 2
  have z2 := K1.out.frozen 2
  have r3 := K1.out.cell 3
  have z3 := K1.out.frozen 3
  have r4 := K1.out.cell 4
  have z4 := K1.out.frozen 4
  have r5 := K1.out.cell 5
  have z5 := K1.out.frozen 5
  have r6 := K1.out.cell 6
  have z6 := K1.out.frozen 6
  have r7 := K1.out.cell 7
  have z7 := K1.out.frozen 7
  have r8 := K1.out.cell 8
  have z8 := K1.out.frozen 8
  go_enter Try.func22, Try.ntmps22
  go_upto_region 1 with fail
  rw [← E1.out]
  rw [← EG4.out]
  go_wp2_with fail
  refine TE.out.mono ?_
  rintro o w' ⟨rfl, rfl⟩
  go_wp2_with fail
  refine (HQ.out _ B1.out).mono ?_
  rintro o w2 ⟨hb2, AR, nr, cr, rfl, hnr, hrow⟩
  obtain ⟨w3, hw3⟩ : ∃ w3, w3 = w2.alloc (.cells #[.int .i64 pr, .bool s6, .int .u64 sh, .int .u64 sl, .bool d6, .int .u64 dh, .int .u64 dl, .int .i64 0, .int .i64 0] 48) := ⟨_, rfl⟩
  have E3 := Lib.hid hw3
  have B23 := Lib.hid (show Below w2.heap.size w2 w3 from by rw [hw3]; exact (Below.refl _ _).alloc (Nat.le_refl _) _)
  have B13 := Lib.hid (hb2.trans (B23.out.mono hb2.size))
  have K3 := Lib.hid (show Blk w3 w2.heap.size 48 #[.int .i64 pr, .bool s6, .int .u64 sh, .int .u64 sl, .bool d6, .int .u64 dh, .int .u64 dl, .int .i64 0, .int .i64 0] from by rw [hw3]; exact Blk.new w2 _ _)
  have K13 := Lib.hid (K1.out.below B13.out K1.out.lt)
  have B12 := Lib.hid hb2.size
  have BW3 := Lib.hid (B1.out.trans (B13.out.mono B1.out.size))
  have HNR := Lib.hid hnr
  have HNE := Lib.hid (show g4 ≠ w2.heap.size from by have := hb2.size; have := SZ1.out; have := EG4.out; omega)
  have HG4 := Lib.hid (show w.heap.size ≤ g4 from by have := EG4.out; omega)
  have HRW := Lib.hid (own_below2 hrow B23.out)
  clear hw3 hb2 hrow hnr
  clear r0 r1 r2 r3 r4 r5 r6 r7 r8 z0 z1 z2 z3 z4 z5 z6 z7 z8
  go_upto_region 7 with fail
  rw [← E3.out]
  have q0 := K3.out.cell 0
  have tn : decide ((nr : Int) < 4) = true := decide_eq_true (by have := HNR.out; omega)
  have tnn : decide (nr < 4) = true := decide_eq_true (by have := HNR.out; omega)
  have r0 := K13.out.cell 0
  have z0 := K13.out.frozen 0
  have r1 := K13.out.cell 1
  have z1 := K13.out.frozen 1
  have r2 := K13.out.cell 2
  have z2 := K13.out.frozen 2
  have r3 := K13.out.cell 3
  have z3 := K13.out.frozen 3
  have r4 := K13.out.cell 4
  have z4 := K13.out.frozen 4
  have r5 := K13.out.cell 5
  have z5 := K13.out.frozen 5
  have r6 := K13.out.cell 6
  have z6 := K13.out.frozen 6
  have r7 := K13.out.cell 7
  have z7 := K13.out.frozen 7
  have r8 := K13.out.cell 8
  have z8 := K13.out.frozen 8
  rcases hp with rfl | rfl
  · go_wp2_with fail
    have OG := tonly w3 g4 (.int .i64 0) (.bool false) (.int .u64 0) (.int .u64 0) (.bool false) (.int .u64 0) (.int .u64 0) (.int .i64 0) (.int .i64 0)
    have KT := tstore w3 g4 (.int .i64 0) (.bool false) (.int .u64 0) (.int .u64 0) (.bool false) (.int .u64 0) (.int .u64 0) (.int .i64 0) (.int .i64 0) _ _ _ _ _ _ _ _ _ K13.out
    refine bodyPost_ret (results_two_q rfl _ _ g4 #[.int .i64 0, .bool false, .int .u64 0, .int .u64 0, .bool false, .int .u64 0, .int .u64 0, .int .i64 0, .int .i64 0] rfl KT rfl) rfl ?_
    exact ⟨rfl, OG.from BW3.out HG4.out⟩
  · go_wp2_with fail
    have OG := tonly w3 g4 (.int .i64 0) (.bool false) (.int .u64 0) (.int .u64 0) (.bool false) (.int .u64 0) (.int .u64 0) (.int .i64 0) (.int .i64 0)
    have KT := tstore w3 g4 (.int .i64 0) (.bool false) (.int .u64 0) (.int .u64 0) (.bool false) (.int .u64 0) (.int .u64 0) (.int .i64 0) (.int .i64 0) _ _ _ _ _ _ _ _ _ K13.out
    refine bodyPost_ret (results_two_q rfl _ _ g4 #[.int .i64 0, .bool false, .int .u64 0, .int .u64 0, .bool false, .int .u64 0, .int .u64 0, .int .i64 0, .int .i64 0] rfl KT rfl) rfl ?_
    exact ⟨rfl, OG.from BW3.out HG4.out⟩
set_option maxHeartbeats 4000000 in
set_option maxRecDepth 100000 in
theorem quoted6_good (ty co wd : Int) (A : Option Addr) (n c : Nat) (f fr pr : Int) (s6 : Bool) (sh sl : Int) (d6 : Bool) (dh dl : Int) (r : List Int) (w : World) (ht : tellsB true ty = true) (he : f = 0) (hf : fr = 0) (hp : pr = 6 ∨ pr = 17) (hr : 4 ≤ r.length) (hr2 : r.length ≤ 1000) (hu : U8 r)
    (HQ : Hid (∀ V, Below w.heap.size w V → Calls Try.prog 51 #[.slice A n c] V (QT f fr pr s6 sh sl d6 dh dl r V))) :
    Calls Try.prog 22 #[.bool true, .agg #[.int .i64 ty, .int .i64 co, .int .u32 wd, .slice A n c]] w fun o w' => o = .returned (.tuple #[.agg #[.int .i64 pr, .bool s6, .int .u64 sh, .int .u64 sl, .bool d6, .int .u64 dh, .int .u64 dl, .int .i64 (256 * r.getD 0 0 + r.getD 1 0), .int .i64 (256 * r.getD 2 0 + r.getD 3 0)], .int .i64 0]) ∧ Below w.heap.size w w' := by
  obtain ⟨w1, hw1⟩ : ∃ w1, w1 = (w.alloc (.cells #[.int .i64 ty, .int .i64 co, .int .u32 wd, .slice A n c] 46)).alloc (.cells #[.int .i64 0, .bool false, .int .u64 0, .int .u64 0, .bool false, .int .u64 0, .int .u64 0, .int .i64 0, .int .i64 0] 48) := ⟨_, rfl⟩
  have E1 := Lib.hid hw1
  have BA := Lib.hid (show Below w.heap.size w (w.alloc (.cells #[.int .i64 ty, .int .i64 co, .int .u32 wd, .slice A n c] 46)) from (Below.refl _ _).alloc (Nat.le_refl _) _)
  have B1 := Lib.hid (show Below w.heap.size w w1 from by rw [hw1]; exact BA.out.alloc BA.out.size _)
  have K0 := Lib.hid (show Blk w1 w.heap.size 46 #[.int .i64 ty, .int .i64 co, .int .u32 wd, .slice A n c] from by rw [hw1]; exact (Blk.new w _ _).alloc _)
  have K1 := Lib.hid (show Blk w1 (w.heap.size + 1) 48 #[.int .i64 0, .bool false, .int .u64 0, .int .u64 0, .bool false, .int .u64 0, .int .u64 0, .int .i64 0, .int .i64 0] from by
    have h9 := Blk.new (w.alloc (.cells #[.int .i64 ty, .int .i64 co, .int .u32 wd, .slice A n c] 46)) 48 #[.int .i64 0, .bool false, .int .u64 0, .int .u64 0, .bool false, .int .u64 0, .int .u64 0, .int .i64 0, .int .i64 0]
    rw [← hw1] at h9
    simpa using h9)
  have SZ1 := Lib.hid (show w1.heap.size = w.heap.size + 2 from by rw [hw1]; simp)
  have TE := Lib.hid (error_all true ty w1)
  rw [ht] at TE
  obtain ⟨g4, hg4⟩ : ∃ g4, g4 = w.heap.size + 1 := ⟨_, rfl⟩
  have EG4 := Lib.hid hg4
  rw [← hg4] at K1
  clear hw1 ht hg4
  subst he
  subst hf
  have m0 := K0.out.cell 0
  have m3 := K0.out.cell 3
  have r0 := K1.out.cell 0
  have z0 := K1.out.frozen 0
  have r1 := K1.out.cell 1
  have z1 := K1.out.frozen 1
  have r2 := K1.out.cell 2
  have z2 := K1.out.frozen 2
  have r3 := K1.out.cell 3
  have z3 := K1.out.frozen 3
  have r4 := K1.out.cell 4
  have z4 := K1.out.frozen 4
  have r5 := K1.out.cell 5
  have z5 := K1.out.frozen 5
  have r6 := K1.out.cell 6
  have z6 := K1.out.frozen 6
  have r7 := K1.out.cell 7
  have z7 := K1.out.frozen 7
  have r8 := K1.out.cell 8
  have z8 := K1.out.frozen 8
  go_enter Try.func22, Try.ntmps22
  go_upto_region 1 with fail
  rw [← E1.out]
  rw [← EG4.out]
  go_wp2_with fail
  refine TE.out.mono ?_
  rintro o w' ⟨rfl, rfl⟩
  go_wp2_with fail
  refine (HQ.out _ B1.out).mono ?_
  rintro o w2 ⟨hb2, AR, nr, cr, rfl, hnr, hrow⟩
  obtain ⟨w3, hw3⟩ : ∃ w3, w3 = w2.alloc (.cells #[.int .i64 pr, .bool s6, .int .u64 sh, .int .u64 sl, .bool d6, .int .u64 dh, .int .u64 dl, .int .i64 0, .int .i64 0] 48) := ⟨_, rfl⟩
  have E3 := Lib.hid hw3
  have B23 := Lib.hid (show Below w2.heap.size w2 w3 from by rw [hw3]; exact (Below.refl _ _).alloc (Nat.le_refl _) _)
  have B13 := Lib.hid (hb2.trans (B23.out.mono hb2.size))
  have K3 := Lib.hid (show Blk w3 w2.heap.size 48 #[.int .i64 pr, .bool s6, .int .u64 sh, .int .u64 sl, .bool d6, .int .u64 dh, .int .u64 dl, .int .i64 0, .int .i64 0] from by rw [hw3]; exact Blk.new w2 _ _)
  have K13 := Lib.hid (K1.out.below B13.out K1.out.lt)
  have B12 := Lib.hid hb2.size
  have BW3 := Lib.hid (B1.out.trans (B13.out.mono B1.out.size))
  have HNR := Lib.hid hnr
  have HNE := Lib.hid (show g4 ≠ w2.heap.size from by have := hb2.size; have := SZ1.out; have := EG4.out; omega)
  have HG4 := Lib.hid (show w.heap.size ≤ g4 from by have := EG4.out; omega)
  have HRW := Lib.hid (own_below2 hrow B23.out)
  clear hw3 hb2 hrow hnr
  clear r0 r1 r2 r3 r4 r5 r6 r7 r8 z0 z1 z2 z3 z4 z5 z6 z7 z8
  go_upto_region 7 with fail
  rw [← E3.out]
  have q0 := K3.out.cell 0
  have tn : decide ((nr : Int) < 4) = false := decide_eq_false (by have := HNR.out; omega)
  have tnn : decide (nr < 4) = false := decide_eq_false (by have := HNR.out; omega)
  have u0 := hu.get 0; have u1 := hu.get 1; have u2 := hu.get 2; have u3 := hu.get 3
  obtain ⟨sp, hsp⟩ : ∃ sp, sp = 256 * r.getD 0 0 + r.getD 1 0 := ⟨_, rfl⟩
  obtain ⟨dp, hdp⟩ : ∃ dp, dp = 256 * r.getD 2 0 + r.getD 3 0 := ⟨_, rfl⟩
  have HSP := Lib.hid hsp
  have HDP := Lib.hid hdp
  have HW2 := Lib.hid (show w.heap.size ≤ w2.heap.size from by have := B1.out.size; have := B12.out; omega)
  have hcap := own_cap HRW.out
  have A0 := Lib.hid (show Calls Try.prog 39 #[.slice AR nr cr, .int .i64 0, .int .i64 2] w3 fun e w' => e = .returned (.int .u64 sp) ∧ w3 = w' from by
    rw [hsp]
    exact at_2 0 AR nr cr r w3 HNR.out.symm (by have := HNR.out; omega) hcap.1 hcap.2.1 hcap.2.2 (own_row HRW.out) hu (by omega))
  have A2 := Lib.hid (show Calls Try.prog 39 #[.slice AR nr cr, .int .i64 2, .int .i64 2] w3 fun e w' => e = .returned (.int .u64 dp) ∧ w3 = w' from by
    rw [hdp]
    exact at_2 2 AR nr cr r w3 HNR.out.symm (by have := HNR.out; omega) hcap.1 hcap.2.1 hcap.2.2 (own_row HRW.out) hu (by omega))
  have wsp : IntKind.i64.wrap sp = sp := IntWalk.i64_in _ (by omega)
  have wdp : IntKind.i64.wrap dp = dp := IntWalk.i64_in _ (by omega)
  clear hsp hdp hu hcap u0 u1 u2 u3 hr hr2 q0
  rcases hp with rfl | rfl
  · have q0 := K3.out.cell 0
    have s0_ := K3.out.frozen 0
    have q1 := K3.out.cell 1
    have s1_ := K3.out.frozen 1
    have q2 := K3.out.cell 2
    have s2_ := K3.out.frozen 2
    have q3 := K3.out.cell 3
    have s3_ := K3.out.frozen 3
    have q4 := K3.out.cell 4
    have s4_ := K3.out.frozen 4
    have q5 := K3.out.cell 5
    have s5_ := K3.out.frozen 5
    have q6 := K3.out.cell 6
    have s6_ := K3.out.frozen 6
    have q7 := K3.out.cell 7
    have s7_ := K3.out.frozen 7
    have q8 := K3.out.cell 8
    have s8_ := K3.out.frozen 8
    go_wp2_with fail
    refine A0.out.mono ?_
    rintro o w' ⟨rfl, rfl⟩
    go_wp2_with fail
    refine A2.out.mono ?_
    rintro o w' ⟨rfl, rfl⟩
    have OS : OnlyG w2.heap.size w3 ((w3.setCell ⟨w2.heap.size, 7, none⟩ (.int .i64 sp)).setCell ⟨w2.heap.size, 8, none⟩ (.int .i64 dp)) := ((OnlyG.refl _ _).set 7 _).set 8 _
    have KP : Blk ((w3.setCell ⟨w2.heap.size, 7, none⟩ (.int .i64 sp)).setCell ⟨w2.heap.size, 8, none⟩ (.int .i64 dp)) w2.heap.size 48 #[.int .i64 6, .bool s6, .int .u64 sh, .int .u64 sl, .bool d6, .int .u64 dh, .int .u64 dl, .int .i64 sp, .int .i64 dp] := (K3.out.set_ 7 (.int .i64 sp)).set_ 8 (.int .i64 dp)
    have KQ := OS.blk K13.out HNE.out
    go_upto_region 16 with fail
    obtain ⟨w5, hw5⟩ : ∃ w5, w5 = (w3.setCell ⟨w2.heap.size, 7, none⟩ (.int .i64 sp)).setCell ⟨w2.heap.size, 8, none⟩ (.int .i64 dp) := ⟨_, rfl⟩
    have E5 := Lib.hid hw5
    rw [← hw5] at OS KP KQ
    have B5 := Lib.hid (OS.from BW3.out (by have := B23.out.size; have := HG4.out; have := HW2.out; omega))
    have KP5 := Lib.hid KP
    have KQ5 := Lib.hid KQ
    clear hw5 OS KP KQ q0 q1 q2 q3 q4 q5 q6 q7 q8 s0_ s1_ s2_ s3_ s4_ s5_ s6_ s7_ s8_
    rw [← E5.out]
    have q0 := KP5.out.cell 0
    have t_0 := KP5.out.frozen 0
    have q1 := KP5.out.cell 1
    have t_1 := KP5.out.frozen 1
    have q2 := KP5.out.cell 2
    have t_2 := KP5.out.frozen 2
    have q3 := KP5.out.cell 3
    have t_3 := KP5.out.frozen 3
    have q4 := KP5.out.cell 4
    have t_4 := KP5.out.frozen 4
    have q5 := KP5.out.cell 5
    have t_5 := KP5.out.frozen 5
    have q6 := KP5.out.cell 6
    have t_6 := KP5.out.frozen 6
    have q7 := KP5.out.cell 7
    have t_7 := KP5.out.frozen 7
    have q8 := KP5.out.cell 8
    have t_8 := KP5.out.frozen 8
    have r0 := KQ5.out.cell 0
    have z0 := KQ5.out.frozen 0
    have r1 := KQ5.out.cell 1
    have z1 := KQ5.out.frozen 1
    have r2 := KQ5.out.cell 2
    have z2 := KQ5.out.frozen 2
    have r3 := KQ5.out.cell 3
    have z3 := KQ5.out.frozen 3
    have r4 := KQ5.out.cell 4
    have z4 := KQ5.out.frozen 4
    have r5 := KQ5.out.cell 5
    have z5 := KQ5.out.frozen 5
    have r6 := KQ5.out.cell 6
    have z6 := KQ5.out.frozen 6
    have r7 := KQ5.out.cell 7
    have z7 := KQ5.out.frozen 7
    have r8 := KQ5.out.cell 8
    have z8 := KQ5.out.frozen 8
    go_wp2_with fail
    have OG := tonly w5 g4 (.int .i64 6) (.bool s6) (.int .u64 sh) (.int .u64 sl) (.bool d6) (.int .u64 dh) (.int .u64 dl) (.int .i64 sp) (.int .i64 dp)
    have KT := tstore w5 g4 (.int .i64 6) (.bool s6) (.int .u64 sh) (.int .u64 sl) (.bool d6) (.int .u64 dh) (.int .u64 dl) (.int .i64 sp) (.int .i64 dp) _ _ _ _ _ _ _ _ _ KQ5.out
    refine bodyPost_ret (results_two_q rfl _ _ g4 #[.int .i64 6, .bool s6, .int .u64 sh, .int .u64 sl, .bool d6, .int .u64 dh, .int .u64 dl, .int .i64 sp, .int .i64 dp] rfl KT rfl) rfl ?_
    exact ⟨by rw [HSP.out, HDP.out]; rfl, OG.from B5.out HG4.out⟩
  · have q0 := K3.out.cell 0
    have s0_ := K3.out.frozen 0
    have q1 := K3.out.cell 1
    have s1_ := K3.out.frozen 1
    have q2 := K3.out.cell 2
    have s2_ := K3.out.frozen 2
    have q3 := K3.out.cell 3
    have s3_ := K3.out.frozen 3
    have q4 := K3.out.cell 4
    have s4_ := K3.out.frozen 4
    have q5 := K3.out.cell 5
    have s5_ := K3.out.frozen 5
    have q6 := K3.out.cell 6
    have s6_ := K3.out.frozen 6
    have q7 := K3.out.cell 7
    have s7_ := K3.out.frozen 7
    have q8 := K3.out.cell 8
    have s8_ := K3.out.frozen 8
    go_wp2_with fail
    refine A0.out.mono ?_
    rintro o w' ⟨rfl, rfl⟩
    go_wp2_with fail
    refine A2.out.mono ?_
    rintro o w' ⟨rfl, rfl⟩
    have OS : OnlyG w2.heap.size w3 ((w3.setCell ⟨w2.heap.size, 7, none⟩ (.int .i64 sp)).setCell ⟨w2.heap.size, 8, none⟩ (.int .i64 dp)) := ((OnlyG.refl _ _).set 7 _).set 8 _
    have KP : Blk ((w3.setCell ⟨w2.heap.size, 7, none⟩ (.int .i64 sp)).setCell ⟨w2.heap.size, 8, none⟩ (.int .i64 dp)) w2.heap.size 48 #[.int .i64 17, .bool s6, .int .u64 sh, .int .u64 sl, .bool d6, .int .u64 dh, .int .u64 dl, .int .i64 sp, .int .i64 dp] := (K3.out.set_ 7 (.int .i64 sp)).set_ 8 (.int .i64 dp)
    have KQ := OS.blk K13.out HNE.out
    go_upto_region 16 with fail
    obtain ⟨w5, hw5⟩ : ∃ w5, w5 = (w3.setCell ⟨w2.heap.size, 7, none⟩ (.int .i64 sp)).setCell ⟨w2.heap.size, 8, none⟩ (.int .i64 dp) := ⟨_, rfl⟩
    have E5 := Lib.hid hw5
    rw [← hw5] at OS KP KQ
    have B5 := Lib.hid (OS.from BW3.out (by have := B23.out.size; have := HG4.out; have := HW2.out; omega))
    have KP5 := Lib.hid KP
    have KQ5 := Lib.hid KQ
    clear hw5 OS KP KQ q0 q1 q2 q3 q4 q5 q6 q7 q8 s0_ s1_ s2_ s3_ s4_ s5_ s6_ s7_ s8_
    rw [← E5.out]
    have q0 := KP5.out.cell 0
    have t_0 := KP5.out.frozen 0
    have q1 := KP5.out.cell 1
    have t_1 := KP5.out.frozen 1
    have q2 := KP5.out.cell 2
    have t_2 := KP5.out.frozen 2
    have q3 := KP5.out.cell 3
    have t_3 := KP5.out.frozen 3
    have q4 := KP5.out.cell 4
    have t_4 := KP5.out.frozen 4
    have q5 := KP5.out.cell 5
    have t_5 := KP5.out.frozen 5
    have q6 := KP5.out.cell 6
    have t_6 := KP5.out.frozen 6
    have q7 := KP5.out.cell 7
    have t_7 := KP5.out.frozen 7
    have q8 := KP5.out.cell 8
    have t_8 := KP5.out.frozen 8
    have r0 := KQ5.out.cell 0
    have z0 := KQ5.out.frozen 0
    have r1 := KQ5.out.cell 1
    have z1 := KQ5.out.frozen 1
    have r2 := KQ5.out.cell 2
    have z2 := KQ5.out.frozen 2
    have r3 := KQ5.out.cell 3
    have z3 := KQ5.out.frozen 3
    have r4 := KQ5.out.cell 4
    have z4 := KQ5.out.frozen 4
    have r5 := KQ5.out.cell 5
    have z5 := KQ5.out.frozen 5
    have r6 := KQ5.out.cell 6
    have z6 := KQ5.out.frozen 6
    have r7 := KQ5.out.cell 7
    have z7 := KQ5.out.frozen 7
    have r8 := KQ5.out.cell 8
    have z8 := KQ5.out.frozen 8
    go_wp2_with fail
    have OG := tonly w5 g4 (.int .i64 17) (.bool s6) (.int .u64 sh) (.int .u64 sl) (.bool d6) (.int .u64 dh) (.int .u64 dl) (.int .i64 sp) (.int .i64 dp)
    have KT := tstore w5 g4 (.int .i64 17) (.bool s6) (.int .u64 sh) (.int .u64 sl) (.bool d6) (.int .u64 dh) (.int .u64 dl) (.int .i64 sp) (.int .i64 dp) _ _ _ _ _ _ _ _ _ KQ5.out
    refine bodyPost_ret (results_two_q rfl _ _ g4 #[.int .i64 17, .bool s6, .int .u64 sh, .int .u64 sl, .bool d6, .int .u64 dh, .int .u64 dl, .int .i64 sp, .int .i64 dp] rfl KT rfl) rfl ?_
    exact ⟨by rw [HSP.out, HDP.out]; rfl, OG.from B5.out HG4.out⟩
end Go.Proofs.Ytndekicblbpkjaa.icmpI
/- Layer 12: the law IcmpQuotes, way by way. -/
namespace Go.Proofs.Ytndekicblbpkjaa.icmpJ
open Go.ChangeShapes Go.WideShapes Go.ChangeAt Go.RowKit
open Go.Proofs.Ytndekicblbpkjaa.base Go.Proofs.Ytndekicblbpkjaa.octA Go.Proofs.Ytndekicblbpkjaa.octB Go.Proofs.Ytndekicblbpkjaa.octC Go.Proofs.Ytndekicblbpkjaa.octF Go.Proofs.Ytndekicblbpkjaa.octK Go.Proofs.Ytndekicblbpkjaa.net Go.Proofs.Ytndekicblbpkjaa.rdrA Go.Proofs.Ytndekicblbpkjaa.rdrG Go.Proofs.Ytndekicblbpkjaa.sumA Go.Proofs.Ytndekicblbpkjaa.sumB Go.Proofs.Ytndekicblbpkjaa.udpA Go.Proofs.Ytndekicblbpkjaa.tcpC Go.Proofs.Ytndekicblbpkjaa.sixW Go.Proofs.Ytndekicblbpkjaa.sixM Go.Proofs.Ytndekicblbpkjaa.sixA Go.Proofs.Ytndekicblbpkjaa.sixB Go.Proofs.Ytndekicblbpkjaa.sixC Go.Proofs.Ytndekicblbpkjaa.sixD Go.Proofs.Ytndekicblbpkjaa.sixE Go.Proofs.Ytndekicblbpkjaa.sixF Go.Proofs.Ytndekicblbpkjaa.icmpA Go.Proofs.Ytndekicblbpkjaa.icmpH Go.Proofs.Ytndekicblbpkjaa.icmpI
set_option linter.unusedVariables false

theorem only_cell {g : Nat} {w w' : World} (h : OnlyG g w w') {p : Addr} (hp : p.block ≠ g) : w'.cell? p = w.cell? p := by
  have := h.els p.block hp
  simp [World.cell?, this]
set_option maxHeartbeats 8000000 in
set_option maxRecDepth 100000 in
theorem law4_not (ty co wd : Int) (A : Option Addr) (n0 n c : Nat) (f fr pr : Int) (s6 : Bool) (sh sl : Int) (d6 : Bool) (dh dl : Int) (r : List Int) (w : World) (ht : tellsB false ty = false) 
    (HC : Hid (∀ W, Calls Try.prog 21 #[.slice A n0 c] W fun o w' => o = .returned (.slice A n c) ∧ W = w'))
    (HQD : Hid (∀ V, Below w.heap.size w V → Calls Try.prog 22 #[.bool false, .agg #[.int .i64 ty, .int .i64 co, .int .u32 wd, .slice A n c]] V fun o w' => o = .returned (.tuple #[.agg #[.int .i64 0, .bool false, .int .u64 0, .int .u64 0, .bool false, .int .u64 0, .int .u64 0, .int .i64 0, .int .i64 0], .int .i64 24]) ∧ Below V.heap.size V w')) :
    Calls Try.prog 5 #[.bool false, .agg #[.int .i64 ty, .int .i64 co, .int .u32 wd, .slice A n0 c]] w fun o w' => o = .returned (.bool true) ∧ Below w.heap.size w w' := by
  obtain ⟨w1, hw1⟩ : ∃ w1, w1 = w.alloc (.cells #[.int .i64 ty, .int .i64 co, .int .u32 wd, .slice A n0 c] 46) := ⟨_, rfl⟩
  have E1 := Lib.hid hw1
  obtain ⟨g, hg⟩ : ∃ g, g = w.heap.size := ⟨_, rfl⟩
  have EG := Lib.hid hg
  have B1 := Lib.hid (show Below w.heap.size w w1 from by rw [hw1]; exact (Below.refl _ _).alloc (Nat.le_refl _) _)
  have K1 := Lib.hid (show Blk w1 g 46 #[.int .i64 ty, .int .i64 co, .int .u32 wd, .slice A n0 c] from by rw [hw1, hg]; exact Blk.new w _ _)
  obtain ⟨w2, hw2⟩ : ∃ w2, w2 = w1.setCell ⟨g, 3, none⟩ (.slice A n c) := ⟨_, rfl⟩
  have E2 := Lib.hid hw2
  have K2 := Lib.hid (show Blk w2 g 46 #[.int .i64 ty, .int .i64 co, .int .u32 wd, .slice A n c] from by rw [hw2]; exact K1.out.set_ 3 _)
  have B2 := Lib.hid (show Below w.heap.size w w2 from by
    rw [hw2]
    exact ((OnlyG.refl g w1).set 3 _).from B1.out (by rw [hg]; exact Nat.le_refl _))
  have TE := Lib.hid (error_all false ty)
  have HTL := Lib.hid ht
  rw [ht] at TE
  clear hw1 hg hw2
  have m3 := K1.out.cell 3
  have z3 := K1.out.frozen 3
  go_enter Try.func5, Try.ntmps5
  go_upto_region 1 with fail
  rw [← E1.out, ← EG.out]
  go_wp2_with fail
  refine (HC.out _).mono ?_
  rintro o w' ⟨rfl, rfl⟩
  go_upto_region 2 with fail
  rw [← E2.out]
  clear m3 z3
  have m0 := K2.out.cell 0
  have m1 := K2.out.cell 1
  have m2 := K2.out.cell 2
  have m3 := K2.out.cell 3
  go_wp2_with fail
  refine (HQD.out _ B2.out).mono ?_
  rintro o w3 ⟨rfl, hb3⟩
  obtain ⟨w4, hw4⟩ : ∃ w4, w4 = w3.alloc (.cells #[.int .i64 0, .bool false, .int .u64 0, .int .u64 0, .bool false, .int .u64 0, .int .u64 0, .int .i64 0, .int .i64 0] 48) := ⟨_, rfl⟩
  have E4 := Lib.hid hw4
  have B34 := Lib.hid (show Below w3.heap.size w3 w4 from by rw [hw4]; exact (Below.refl _ _).alloc (Nat.le_refl _) _)
  have B24 := Lib.hid (hb3.trans (B34.out.mono hb3.size))
  have K4 := Lib.hid (show Blk w4 w3.heap.size 48 #[.int .i64 0, .bool false, .int .u64 0, .int .u64 0, .bool false, .int .u64 0, .int .u64 0, .int .i64 0, .int .i64 0] from by rw [hw4]; exact Blk.new w3 _ _)
  have K24 := Lib.hid (K2.out.below B24.out K2.out.lt)
  have B4 := Lib.hid (B2.out.trans (B24.out.mono B2.out.size))
  have SZ4 := Lib.hid (show w4.heap.size = w3.heap.size + 1 from by rw [hw4]; simp)
  have SZ3 := Lib.hid hb3.size
  clear hw4 hb3 m0 m1 m2 m3
  go_upto_region 3 with fail
  rw [← E4.out]
  have m0 := K24.out.cell 0
  go_upto_region 4 with fail
  go_cut [8] (fun v wx => v = .bool false ∧ wx = w4)
  case first =>
    have hh := HTL.out
    unfold tellsB at hh
    rw [if_neg (by decide)] at hh
    have hh := of_decide_eq_false hh
    have e3 : (ty == 3) = false := by simp; omega
    have e4 : (ty == 4) = false := by simp; omega
    have e5 : (ty == 5) = false := by simp; omega
    have e11 : (ty == 11) = false := by simp; omega
    have e12 : (ty == 12) = false := by simp; omega
    clear hh
    go_wp2_with fail; go_meet; exact ⟨rfl, rfl⟩
  case rest =>
  obtain ⟨rfl, hwc⟩ := hcut
  have hwc := hwc.symm
  subst hwc
  clear m0
  go_wp2_with fail
  refine (TE.out _).mono ?_
  rintro o w' ⟨rfl, rfl⟩
  have q0 := K4.out.cell 0
  have q1 := K4.out.cell 1
  have q2 := K4.out.cell 2
  have q3 := K4.out.cell 3
  have q4 := K4.out.cell 4
  have q5 := K4.out.cell 5
  have q6 := K4.out.cell 6
  have q7 := K4.out.cell 7
  have q8 := K4.out.cell 8
  go_wp2_with fail
  refine (Go.Proofs.Ytndekicblbpkjaa.icmpA.awake_any _).mono ?_
  rintro o w' ⟨rfl, rfl⟩
  go_wp2_with fail
  go_ret
  exact ⟨rfl, B4.out⟩
set_option maxHeartbeats 8000000 in
set_option maxRecDepth 100000 in
theorem law4_err (ty co wd : Int) (A : Option Addr) (n0 n c : Nat) (f fr pr : Int) (s6 : Bool) (sh sl : Int) (d6 : Bool) (dh dl : Int) (r : List Int) (w : World) (ht : tellsB false ty = true) (he : f ≠ 0)
    (HC : Hid (∀ W, Calls Try.prog 21 #[.slice A n0 c] W fun o w' => o = .returned (.slice A n c) ∧ W = w'))
    (HQD : Hid (∀ V, Below w.heap.size w V → Calls Try.prog 22 #[.bool false, .agg #[.int .i64 ty, .int .i64 co, .int .u32 wd, .slice A n c]] V fun o w' => o = .returned (.tuple #[.agg #[.int .i64 0, .bool false, .int .u64 0, .int .u64 0, .bool false, .int .u64 0, .int .u64 0, .int .i64 0, .int .i64 0], .int .i64 f]) ∧ Below V.heap.size V w'))
    (HQ : Hid (∀ V, Below w.heap.size w V → Calls Try.prog 26 #[.slice A n c] V (Q4 f fr pr s6 sh sl d6 dh dl r V))) :
    Calls Try.prog 5 #[.bool false, .agg #[.int .i64 ty, .int .i64 co, .int .u32 wd, .slice A n0 c]] w fun o w' => o = .returned (.bool true) ∧ Below w.heap.size w w' := by
  obtain ⟨w1, hw1⟩ : ∃ w1, w1 = w.alloc (.cells #[.int .i64 ty, .int .i64 co, .int .u32 wd, .slice A n0 c] 46) := ⟨_, rfl⟩
  have E1 := Lib.hid hw1
  obtain ⟨g, hg⟩ : ∃ g, g = w.heap.size := ⟨_, rfl⟩
  have EG := Lib.hid hg
  have B1 := Lib.hid (show Below w.heap.size w w1 from by rw [hw1]; exact (Below.refl _ _).alloc (Nat.le_refl _) _)
  have K1 := Lib.hid (show Blk w1 g 46 #[.int .i64 ty, .int .i64 co, .int .u32 wd, .slice A n0 c] from by rw [hw1, hg]; exact Blk.new w _ _)
  obtain ⟨w2, hw2⟩ : ∃ w2, w2 = w1.setCell ⟨g, 3, none⟩ (.slice A n c) := ⟨_, rfl⟩
  have E2 := Lib.hid hw2
  have K2 := Lib.hid (show Blk w2 g 46 #[.int .i64 ty, .int .i64 co, .int .u32 wd, .slice A n c] from by rw [hw2]; exact K1.out.set_ 3 _)
  have B2 := Lib.hid (show Below w.heap.size w w2 from by
    rw [hw2]
    exact ((OnlyG.refl g w1).set 3 _).from B1.out (by rw [hg]; exact Nat.le_refl _))
  have TE := Lib.hid (error_all false ty)
  have HTL := Lib.hid ht
  rw [ht] at TE
  clear hw1 hg hw2
  have m3 := K1.out.cell 3
  have z3 := K1.out.frozen 3
  go_enter Try.func5, Try.ntmps5
  go_upto_region 1 with fail
  rw [← E1.out, ← EG.out]
  go_wp2_with fail
  refine (HC.out _).mono ?_
  rintro o w' ⟨rfl, rfl⟩
  go_upto_region 2 with fail
  rw [← E2.out]
  clear m3 z3
  have m0 := K2.out.cell 0
  have m1 := K2.out.cell 1
  have m2 := K2.out.cell 2
  have m3 := K2.out.cell 3
  go_wp2_with fail
  refine (HQD.out _ B2.out).mono ?_
  rintro o w3 ⟨rfl, hb3⟩
  obtain ⟨w4, hw4⟩ : ∃ w4, w4 = w3.alloc (.cells #[.int .i64 0, .bool false, .int .u64 0, .int .u64 0, .bool false, .int .u64 0, .int .u64 0, .int .i64 0, .int .i64 0] 48) := ⟨_, rfl⟩
  have E4 := Lib.hid hw4
  have B34 := Lib.hid (show Below w3.heap.size w3 w4 from by rw [hw4]; exact (Below.refl _ _).alloc (Nat.le_refl _) _)
  have B24 := Lib.hid (hb3.trans (B34.out.mono hb3.size))
  have K4 := Lib.hid (show Blk w4 w3.heap.size 48 #[.int .i64 0, .bool false, .int .u64 0, .int .u64 0, .bool false, .int .u64 0, .int .u64 0, .int .i64 0, .int .i64 0] from by rw [hw4]; exact Blk.new w3 _ _)
  have K24 := Lib.hid (K2.out.below B24.out K2.out.lt)
  have B4 := Lib.hid (B2.out.trans (B24.out.mono B2.out.size))
  have SZ4 := Lib.hid (show w4.heap.size = w3.heap.size + 1 from by rw [hw4]; simp)
  have SZ3 := Lib.hid hb3.size
  clear hw4 hb3 m0 m1 m2 m3
  go_upto_region 3 with fail
  rw [← E4.out]
  have m0 := K24.out.cell 0
  go_upto_region 4 with fail
  go_cut [8] (fun v wx => v = .bool true ∧ wx = w4)
  case first =>
    have hh := HTL.out
    unfold tellsB at hh
    rw [if_neg (by decide)] at hh
    have hh := of_decide_eq_true hh
    have hh : ty = 3 ∨ ty = 4 ∨ ty = 5 ∨ ty = 11 ∨ ty = 12 := by omega
    rcases hh with hh | hh | hh | hh | hh
    · have e3 : (ty == 3) = true := by simp [hh]
      clear hh
      go_wp2_with fail; go_meet; exact ⟨rfl, rfl⟩
    · have e3 : (ty == 3) = false := by simp; omega
      have e4 : (ty == 4) = true := by simp [hh]
      clear hh
      go_wp2_with fail; go_meet; exact ⟨rfl, rfl⟩
    · have e3 : (ty == 3) = false := by simp; omega
      have e4 : (ty == 4) = false := by simp; omega
      have e5 : (ty == 5) = true := by simp [hh]
      clear hh
      go_wp2_with fail; go_meet; exact ⟨rfl, rfl⟩
    · have e3 : (ty == 3) = false := by simp; omega
      have e4 : (ty == 4) = false := by simp; omega
      have e5 : (ty == 5) = false := by simp; omega
      have e11 : (ty == 11) = true := by simp [hh]
      clear hh
      go_wp2_with fail; go_meet; exact ⟨rfl, rfl⟩
    · have e3 : (ty == 3) = false := by simp; omega
      have e4 : (ty == 4) = false := by simp; omega
      have e5 : (ty == 5) = false := by simp; omega
      have e11 : (ty == 11) = false := by simp; omega
      have e12 : (ty == 12) = true := by simp [hh]
      clear hh
      go_wp2_with fail; go_meet; exact ⟨rfl, rfl⟩
  case rest =>
  obtain ⟨rfl, hwc⟩ := hcut
  have hwc := hwc.symm
  subst hwc
  clear m0
  go_wp2_with fail
  refine (TE.out _).mono ?_
  rintro o w' ⟨rfl, rfl⟩
  obtain ⟨w5, hw5⟩ : ∃ w5, w5 = w4.alloc (.cells #[.int .i64 0, .bool false, .int .u64 0, .int .u64 0, .bool false, .int .u64 0, .int .u64 0, .int .i64 0, .int .i64 0] 48) := ⟨_, rfl⟩
  have E5 := Lib.hid hw5
  have B45 := Lib.hid (show Below w4.heap.size w4 w5 from by rw [hw5]; exact (Below.refl _ _).alloc (Nat.le_refl _) _)
  have K95 := Lib.hid (show Blk w5 w4.heap.size 48 #[.int .i64 0, .bool false, .int .u64 0, .int .u64 0, .bool false, .int .u64 0, .int .u64 0, .int .i64 0, .int .i64 0] from by rw [hw5]; exact Blk.new w4 _ _)
  have SZ5 := Lib.hid (show w5.heap.size = w4.heap.size + 1 from by rw [hw5]; simp)
  have B5 := Lib.hid (B4.out.trans (B45.out.mono B4.out.size))
  have K25 := Lib.hid (K24.out.below B45.out K24.out.lt)
  have K45 := Lib.hid (K4.out.below B45.out K4.out.lt)
  clear hw5
  go_upto_region 10 with fail
  rw [← E5.out]
  have m3 := K25.out.cell 3
  go_wp2_with fail
  refine (HQ.out _ B5.out).mono ?_
  rintro o w6 ⟨hb6, tos, id, df, mf, ttl, AO, no, co_, AR, nr, cr, rfl, hnr, hrow⟩
  obtain ⟨w7, hw7⟩ : ∃ w7, w7 = w6.alloc (.cells #[.int .i64 tos, .int .i64 id, .bool df, .bool mf, .int .i64 fr, .int .i64 ttl, .int .i64 pr, .bool s6, .int .u64 sh, .int .u64 sl, .bool d6, .int .u64 dh, .int .u64 dl, .slice AO no co_] 53) := ⟨_, rfl⟩
  have E7 := Lib.hid hw7
  have B67 := Lib.hid (show Below w6.heap.size w6 w7 from by rw [hw7]; exact (Below.refl _ _).alloc (Nat.le_refl _) _)
  have B57 := Lib.hid (hb6.trans (B67.out.mono hb6.size))
  have K77 := Lib.hid (show Blk w7 w6.heap.size 53 #[.int .i64 tos, .int .i64 id, .bool df, .bool mf, .int .i64 fr, .int .i64 ttl, .int .i64 pr, .bool s6, .int .u64 sh, .int .u64 sl, .bool d6, .int .u64 dh, .int .u64 dl, .slice AO no co_] from by rw [hw7]; exact Blk.new w6 _ _)
  have K97 := Lib.hid (K95.out.below B57.out K95.out.lt)
  have K47 := Lib.hid (K45.out.below B57.out K45.out.lt)
  have B7 := Lib.hid (B5.out.trans (B57.out.mono B5.out.size))
  have NE1 := Lib.hid (show w6.heap.size ≠ w4.heap.size from by have := hb6.size; have := SZ5.out; omega)
  have NE2 := Lib.hid (show w3.heap.size ≠ w4.heap.size from by have := SZ4.out; omega)
  have HNR := Lib.hid hnr
  have RW7 := Lib.hid (own_below2 hrow B67.out)
  obtain ⟨w8, hw8⟩ : ∃ w8, w8 = (((((((((w7.setCell ⟨w4.heap.size, 0, none⟩ (.int .i64 pr)).setCell ⟨w4.heap.size, 1, none⟩ (.bool s6)).setCell ⟨w4.heap.size, 2, none⟩ (.int .u64 sh)).setCell ⟨w4.heap.size, 3, none⟩ (.int .u64 sl)).setCell ⟨w4.heap.size, 4, none⟩ (.bool d6)).setCell ⟨w4.heap.size, 5, none⟩ (.int .u64 dh)).setCell ⟨w4.heap.size, 6, none⟩ (.int .u64 dl)).setCell ⟨w4.heap.size, 7, none⟩ (.int .i64 0)).setCell ⟨w4.heap.size, 8, none⟩ (.int .i64 0)) := ⟨_, rfl⟩
  have E8 := Lib.hid hw8
  have OG8 := Lib.hid (show OnlyG w4.heap.size w7 w8 from by rw [hw8]; exact tonly w7 w4.heap.size (.int .i64 pr) (.bool s6) (.int .u64 sh) (.int .u64 sl) (.bool d6) (.int .u64 dh) (.int .u64 dl) (.int .i64 0) (.int .i64 0))
  have K98 := Lib.hid (show Blk w8 w4.heap.size 48 #[.int .i64 pr, .bool s6, .int .u64 sh, .int .u64 sl, .bool d6, .int .u64 dh, .int .u64 dl, .int .i64 0, .int .i64 0] from by rw [hw8]; exact tstore w7 w4.heap.size (.int .i64 pr) (.bool s6) (.int .u64 sh) (.int .u64 sl) (.bool d6) (.int .u64 dh) (.int .u64 dl) (.int .i64 0) (.int .i64 0) _ _ _ _ _ _ _ _ _ K97.out)
  have K48 := Lib.hid (OG8.out.blk K47.out NE2.out)
  have K78 := Lib.hid (OG8.out.blk K77.out NE1.out)
  have RW8 := Lib.hid (own_els RW7.out (by have := SZ5.out; omega) (toEls OG8.out))
  have B8 := Lib.hid (OG8.out.from B7.out (by have := B4.out.size; omega))
  clear hw7 hw8 hb6 hnr hrow m3
  go_upto_region 20 with fail
  rw [← E7.out]
  have k0 := K77.out.cell 0
  have k1 := K77.out.cell 1
  have k2 := K77.out.cell 2
  have k3 := K77.out.cell 3
  have k4 := K77.out.cell 4
  have k5 := K77.out.cell 5
  have k6 := K77.out.cell 6
  have k7 := K77.out.cell 7
  have k8 := K77.out.cell 8
  have k9 := K77.out.cell 9
  have k10 := K77.out.cell 10
  have k11 := K77.out.cell 11
  have k12 := K77.out.cell 12
  have k13 := K77.out.cell 13
  have y0 := K97.out.cell 0
  have z0 := K97.out.frozen 0
  have y1 := K97.out.cell 1
  have z1 := K97.out.frozen 1
  have y2 := K97.out.cell 2
  have z2 := K97.out.frozen 2
  have y3 := K97.out.cell 3
  have z3 := K97.out.frozen 3
  have y4 := K97.out.cell 4
  have z4 := K97.out.frozen 4
  have y5 := K97.out.cell 5
  have z5 := K97.out.frozen 5
  have y6 := K97.out.cell 6
  have z6 := K97.out.frozen 6
  have y7 := K97.out.cell 7
  have z7 := K97.out.frozen 7
  have y8 := K97.out.cell 8
  have z8 := K97.out.frozen 8
  go_upto_region 21 with fail
  rw [← E8.out]
  clear k0 k1 k2 k3 k4 k5 k6 k7 k8 k9 k10 k11 k12 k13
  clear y0 y1 y2 y3 y4 y5 y6 y7 y8 z0 z1 z2 z3 z4 z5 z6 z7 z8
  have k0 := K78.out.cell 0
  have k1 := K78.out.cell 1
  have k2 := K78.out.cell 2
  have k3 := K78.out.cell 3
  have k4 := K78.out.cell 4
  have k5 := K78.out.cell 5
  have k6 := K78.out.cell 6
  have k7 := K78.out.cell 7
  have k8 := K78.out.cell 8
  have k9 := K78.out.cell 9
  have k10 := K78.out.cell 10
  have k11 := K78.out.cell 11
  have k12 := K78.out.cell 12
  have k13 := K78.out.cell 13
  have te : (f == 0) = false := by simpa using he
  have tf : (f != 0) = true := by simpa using he
  have tt : (f == f) = true := by simp
  clear he
  have q0 := K48.out.cell 0
  have q1 := K48.out.cell 1
  have q2 := K48.out.cell 2
  have q3 := K48.out.cell 3
  have q4 := K48.out.cell 4
  have q5 := K48.out.cell 5
  have q6 := K48.out.cell 6
  have q7 := K48.out.cell 7
  have q8 := K48.out.cell 8
  go_wp2_with fail
  refine (Go.Proofs.Ytndekicblbpkjaa.icmpA.awake_any _).mono ?_
  rintro o w' ⟨rfl, rfl⟩
  go_wp2_with fail
  go_ret
  exact ⟨rfl, B8.out⟩
set_option maxHeartbeats 8000000 in
set_option maxRecDepth 100000 in
theorem law4_frag (ty co wd : Int) (A : Option Addr) (n0 n c : Nat) (f fr pr : Int) (s6 : Bool) (sh sl : Int) (d6 : Bool) (dh dl : Int) (r : List Int) (w : World) (ht : tellsB false ty = true) (he : f = 0) (hf : 0 < fr)
    (HC : Hid (∀ W, Calls Try.prog 21 #[.slice A n0 c] W fun o w' => o = .returned (.slice A n c) ∧ W = w'))
    (HQD : Hid (∀ V, Below w.heap.size w V → Calls Try.prog 22 #[.bool false, .agg #[.int .i64 ty, .int .i64 co, .int .u32 wd, .slice A n c]] V fun o w' => o = .returned (.tuple #[.agg #[.int .i64 0, .bool false, .int .u64 0, .int .u64 0, .bool false, .int .u64 0, .int .u64 0, .int .i64 0, .int .i64 0], .int .i64 21]) ∧ Below V.heap.size V w'))
    (HQ : Hid (∀ V, Below w.heap.size w V → Calls Try.prog 26 #[.slice A n c] V (Q4 f fr pr s6 sh sl d6 dh dl r V))) :
    Calls Try.prog 5 #[.bool false, .agg #[.int .i64 ty, .int .i64 co, .int .u32 wd, .slice A n0 c]] w fun o w' => o = .returned (.bool true) ∧ Below w.heap.size w w' := by
  obtain ⟨w1, hw1⟩ : ∃ w1, w1 = w.alloc (.cells #[.int .i64 ty, .int .i64 co, .int .u32 wd, .slice A n0 c] 46) := ⟨_, rfl⟩
  have E1 := Lib.hid hw1
  obtain ⟨g, hg⟩ : ∃ g, g = w.heap.size := ⟨_, rfl⟩
  have EG := Lib.hid hg
  have B1 := Lib.hid (show Below w.heap.size w w1 from by rw [hw1]; exact (Below.refl _ _).alloc (Nat.le_refl _) _)
  have K1 := Lib.hid (show Blk w1 g 46 #[.int .i64 ty, .int .i64 co, .int .u32 wd, .slice A n0 c] from by rw [hw1, hg]; exact Blk.new w _ _)
  obtain ⟨w2, hw2⟩ : ∃ w2, w2 = w1.setCell ⟨g, 3, none⟩ (.slice A n c) := ⟨_, rfl⟩
  have E2 := Lib.hid hw2
  have K2 := Lib.hid (show Blk w2 g 46 #[.int .i64 ty, .int .i64 co, .int .u32 wd, .slice A n c] from by rw [hw2]; exact K1.out.set_ 3 _)
  have B2 := Lib.hid (show Below w.heap.size w w2 from by
    rw [hw2]
    exact ((OnlyG.refl g w1).set 3 _).from B1.out (by rw [hg]; exact Nat.le_refl _))
  subst he
  have TE := Lib.hid (error_all false ty)
  have HTL := Lib.hid ht
  rw [ht] at TE
  clear hw1 hg hw2
  have m3 := K1.out.cell 3
  have z3 := K1.out.frozen 3
  go_enter Try.func5, Try.ntmps5
  go_upto_region 1 with fail
  rw [← E1.out, ← EG.out]
  go_wp2_with fail
  refine (HC.out _).mono ?_
  rintro o w' ⟨rfl, rfl⟩
  go_upto_region 2 with fail
  rw [← E2.out]
  clear m3 z3
  have m0 := K2.out.cell 0
  have m1 := K2.out.cell 1
  have m2 := K2.out.cell 2
  have m3 := K2.out.cell 3
  go_wp2_with fail
  refine (HQD.out _ B2.out).mono ?_
  rintro o w3 ⟨rfl, hb3⟩
  obtain ⟨w4, hw4⟩ : ∃ w4, w4 = w3.alloc (.cells #[.int .i64 0, .bool false, .int .u64 0, .int .u64 0, .bool false, .int .u64 0, .int .u64 0, .int .i64 0, .int .i64 0] 48) := ⟨_, rfl⟩
  have E4 := Lib.hid hw4
  have B34 := Lib.hid (show Below w3.heap.size w3 w4 from by rw [hw4]; exact (Below.refl _ _).alloc (Nat.le_refl _) _)
  have B24 := Lib.hid (hb3.trans (B34.out.mono hb3.size))
  have K4 := Lib.hid (show Blk w4 w3.heap.size 48 #[.int .i64 0, .bool false, .int .u64 0, .int .u64 0, .bool false, .int .u64 0, .int .u64 0, .int .i64 0, .int .i64 0] from by rw [hw4]; exact Blk.new w3 _ _)
  have K24 := Lib.hid (K2.out.below B24.out K2.out.lt)
  have B4 := Lib.hid (B2.out.trans (B24.out.mono B2.out.size))
  have SZ4 := Lib.hid (show w4.heap.size = w3.heap.size + 1 from by rw [hw4]; simp)
  have SZ3 := Lib.hid hb3.size
  clear hw4 hb3 m0 m1 m2 m3
  go_upto_region 3 with fail
  rw [← E4.out]
  have m0 := K24.out.cell 0
  go_upto_region 4 with fail
  go_cut [8] (fun v wx => v = .bool true ∧ wx = w4)
  case first =>
    have hh := HTL.out
    unfold tellsB at hh
    rw [if_neg (by decide)] at hh
    have hh := of_decide_eq_true hh
    have hh : ty = 3 ∨ ty = 4 ∨ ty = 5 ∨ ty = 11 ∨ ty = 12 := by omega
    rcases hh with hh | hh | hh | hh | hh
    · have e3 : (ty == 3) = true := by simp [hh]
      clear hh
      go_wp2_with fail; go_meet; exact ⟨rfl, rfl⟩
    · have e3 : (ty == 3) = false := by simp; omega
      have e4 : (ty == 4) = true := by simp [hh]
      clear hh
      go_wp2_with fail; go_meet; exact ⟨rfl, rfl⟩
    · have e3 : (ty == 3) = false := by simp; omega
      have e4 : (ty == 4) = false := by simp; omega
      have e5 : (ty == 5) = true := by simp [hh]
      clear hh
      go_wp2_with fail; go_meet; exact ⟨rfl, rfl⟩
    · have e3 : (ty == 3) = false := by simp; omega
      have e4 : (ty == 4) = false := by simp; omega
      have e5 : (ty == 5) = false := by simp; omega
      have e11 : (ty == 11) = true := by simp [hh]
      clear hh
      go_wp2_with fail; go_meet; exact ⟨rfl, rfl⟩
    · have e3 : (ty == 3) = false := by simp; omega
      have e4 : (ty == 4) = false := by simp; omega
      have e5 : (ty == 5) = false := by simp; omega
      have e11 : (ty == 11) = false := by simp; omega
      have e12 : (ty == 12) = true := by simp [hh]
      clear hh
      go_wp2_with fail; go_meet; exact ⟨rfl, rfl⟩
  case rest =>
  obtain ⟨rfl, hwc⟩ := hcut
  have hwc := hwc.symm
  subst hwc
  clear m0
  go_wp2_with fail
  refine (TE.out _).mono ?_
  rintro o w' ⟨rfl, rfl⟩
  obtain ⟨w5, hw5⟩ : ∃ w5, w5 = w4.alloc (.cells #[.int .i64 0, .bool false, .int .u64 0, .int .u64 0, .bool false, .int .u64 0, .int .u64 0, .int .i64 0, .int .i64 0] 48) := ⟨_, rfl⟩
  have E5 := Lib.hid hw5
  have B45 := Lib.hid (show Below w4.heap.size w4 w5 from by rw [hw5]; exact (Below.refl _ _).alloc (Nat.le_refl _) _)
  have K95 := Lib.hid (show Blk w5 w4.heap.size 48 #[.int .i64 0, .bool false, .int .u64 0, .int .u64 0, .bool false, .int .u64 0, .int .u64 0, .int .i64 0, .int .i64 0] from by rw [hw5]; exact Blk.new w4 _ _)
  have SZ5 := Lib.hid (show w5.heap.size = w4.heap.size + 1 from by rw [hw5]; simp)
  have B5 := Lib.hid (B4.out.trans (B45.out.mono B4.out.size))
  have K25 := Lib.hid (K24.out.below B45.out K24.out.lt)
  have K45 := Lib.hid (K4.out.below B45.out K4.out.lt)
  clear hw5
  go_upto_region 10 with fail
  rw [← E5.out]
  have m3 := K25.out.cell 3
  go_wp2_with fail
  refine (HQ.out _ B5.out).mono ?_
  rintro o w6 ⟨hb6, tos, id, df, mf, ttl, AO, no, co_, AR, nr, cr, rfl, hnr, hrow⟩
  obtain ⟨w7, hw7⟩ : ∃ w7, w7 = w6.alloc (.cells #[.int .i64 tos, .int .i64 id, .bool df, .bool mf, .int .i64 fr, .int .i64 ttl, .int .i64 pr, .bool s6, .int .u64 sh, .int .u64 sl, .bool d6, .int .u64 dh, .int .u64 dl, .slice AO no co_] 53) := ⟨_, rfl⟩
  have E7 := Lib.hid hw7
  have B67 := Lib.hid (show Below w6.heap.size w6 w7 from by rw [hw7]; exact (Below.refl _ _).alloc (Nat.le_refl _) _)
  have B57 := Lib.hid (hb6.trans (B67.out.mono hb6.size))
  have K77 := Lib.hid (show Blk w7 w6.heap.size 53 #[.int .i64 tos, .int .i64 id, .bool df, .bool mf, .int .i64 fr, .int .i64 ttl, .int .i64 pr, .bool s6, .int .u64 sh, .int .u64 sl, .bool d6, .int .u64 dh, .int .u64 dl, .slice AO no co_] from by rw [hw7]; exact Blk.new w6 _ _)
  have K97 := Lib.hid (K95.out.below B57.out K95.out.lt)
  have K47 := Lib.hid (K45.out.below B57.out K45.out.lt)
  have B7 := Lib.hid (B5.out.trans (B57.out.mono B5.out.size))
  have NE1 := Lib.hid (show w6.heap.size ≠ w4.heap.size from by have := hb6.size; have := SZ5.out; omega)
  have NE2 := Lib.hid (show w3.heap.size ≠ w4.heap.size from by have := SZ4.out; omega)
  have HNR := Lib.hid hnr
  have RW7 := Lib.hid (own_below2 hrow B67.out)
  obtain ⟨w8, hw8⟩ : ∃ w8, w8 = (((((((((w7.setCell ⟨w4.heap.size, 0, none⟩ (.int .i64 pr)).setCell ⟨w4.heap.size, 1, none⟩ (.bool s6)).setCell ⟨w4.heap.size, 2, none⟩ (.int .u64 sh)).setCell ⟨w4.heap.size, 3, none⟩ (.int .u64 sl)).setCell ⟨w4.heap.size, 4, none⟩ (.bool d6)).setCell ⟨w4.heap.size, 5, none⟩ (.int .u64 dh)).setCell ⟨w4.heap.size, 6, none⟩ (.int .u64 dl)).setCell ⟨w4.heap.size, 7, none⟩ (.int .i64 0)).setCell ⟨w4.heap.size, 8, none⟩ (.int .i64 0)) := ⟨_, rfl⟩
  have E8 := Lib.hid hw8
  have OG8 := Lib.hid (show OnlyG w4.heap.size w7 w8 from by rw [hw8]; exact tonly w7 w4.heap.size (.int .i64 pr) (.bool s6) (.int .u64 sh) (.int .u64 sl) (.bool d6) (.int .u64 dh) (.int .u64 dl) (.int .i64 0) (.int .i64 0))
  have K98 := Lib.hid (show Blk w8 w4.heap.size 48 #[.int .i64 pr, .bool s6, .int .u64 sh, .int .u64 sl, .bool d6, .int .u64 dh, .int .u64 dl, .int .i64 0, .int .i64 0] from by rw [hw8]; exact tstore w7 w4.heap.size (.int .i64 pr) (.bool s6) (.int .u64 sh) (.int .u64 sl) (.bool d6) (.int .u64 dh) (.int .u64 dl) (.int .i64 0) (.int .i64 0) _ _ _ _ _ _ _ _ _ K97.out)
  have K48 := Lib.hid (OG8.out.blk K47.out NE2.out)
  have K78 := Lib.hid (OG8.out.blk K77.out NE1.out)
  have RW8 := Lib.hid (own_els RW7.out (by have := SZ5.out; omega) (toEls OG8.out))
  have B8 := Lib.hid (OG8.out.from B7.out (by have := B4.out.size; omega))
  clear hw7 hw8 hb6 hnr hrow m3
  go_upto_region 20 with fail
  rw [← E7.out]
  have k0 := K77.out.cell 0
  have k1 := K77.out.cell 1
  have k2 := K77.out.cell 2
  have k3 := K77.out.cell 3
  have k4 := K77.out.cell 4
  have k5 := K77.out.cell 5
  have k6 := K77.out.cell 6
  have k7 := K77.out.cell 7
  have k8 := K77.out.cell 8
  have k9 := K77.out.cell 9
  have k10 := K77.out.cell 10
  have k11 := K77.out.cell 11
  have k12 := K77.out.cell 12
  have k13 := K77.out.cell 13
  have y0 := K97.out.cell 0
  have z0 := K97.out.frozen 0
  have y1 := K97.out.cell 1
  have z1 := K97.out.frozen 1
  have y2 := K97.out.cell 2
  have z2 := K97.out.frozen 2
  have y3 := K97.out.cell 3
  have z3 := K97.out.frozen 3
  have y4 := K97.out.cell 4
  have z4 := K97.out.frozen 4
  have y5 := K97.out.cell 5
  have z5 := K97.out.frozen 5
  have y6 := K97.out.cell 6
  have z6 := K97.out.frozen 6
  have y7 := K97.out.cell 7
  have z7 := K97.out.frozen 7
  have y8 := K97.out.cell 8
  have z8 := K97.out.frozen 8
  go_upto_region 21 with fail
  rw [← E8.out]
  clear k0 k1 k2 k3 k4 k5 k6 k7 k8 k9 k10 k11 k12 k13
  clear y0 y1 y2 y3 y4 y5 y6 y7 y8 z0 z1 z2 z3 z4 z5 z6 z7 z8
  have k0 := K78.out.cell 0
  have k1 := K78.out.cell 1
  have k2 := K78.out.cell 2
  have k3 := K78.out.cell 3
  have k4 := K78.out.cell 4
  have k5 := K78.out.cell 5
  have k6 := K78.out.cell 6
  have k7 := K78.out.cell 7
  have k8 := K78.out.cell 8
  have k9 := K78.out.cell 9
  have k10 := K78.out.cell 10
  have k11 := K78.out.cell 11
  have k12 := K78.out.cell 12
  have k13 := K78.out.cell 13
  have tf : decide (0 < fr) = true := decide_eq_true hf
  clear hf
  have q0 := K48.out.cell 0
  have q1 := K48.out.cell 1
  have q2 := K48.out.cell 2
  have q3 := K48.out.cell 3
  have q4 := K48.out.cell 4
  have q5 := K48.out.cell 5
  have q6 := K48.out.cell 6
  have q7 := K48.out.cell 7
  have q8 := K48.out.cell 8
  go_wp2_with fail
  refine (Go.Proofs.Ytndekicblbpkjaa.icmpA.awake_any _).mono ?_
  rintro o w' ⟨rfl, rfl⟩
  go_wp2_with fail
  go_ret
  exact ⟨rfl, B8.out⟩
set_option maxHeartbeats 8000000 in
set_option maxRecDepth 100000 in
theorem law4_proto (ty co wd : Int) (A : Option Addr) (n0 n c : Nat) (f fr pr : Int) (s6 : Bool) (sh sl : Int) (d6 : Bool) (dh dl : Int) (r : List Int) (w : World) (ht : tellsB false ty = true) (he : f = 0) (hf : fr = 0) (hp : pr ≠ 6 ∧ pr ≠ 17)
    (HC : Hid (∀ W, Calls Try.prog 21 #[.slice A n0 c] W fun o w' => o = .returned (.slice A n c) ∧ W = w'))
    (HQD : Hid (∀ V, Below w.heap.size w V → Calls Try.prog 22 #[.bool false, .agg #[.int .i64 ty, .int .i64 co, .int .u32 wd, .slice A n c]] V fun o w' => o = .returned (.tuple #[.agg #[.int .i64 0, .bool false, .int .u64 0, .int .u64 0, .bool false, .int .u64 0, .int .u64 0, .int .i64 0, .int .i64 0], .int .i64 14]) ∧ Below V.heap.size V w'))
    (HQ : Hid (∀ V, Below w.heap.size w V → Calls Try.prog 26 #[.slice A n c] V (Q4 f fr pr s6 sh sl d6 dh dl r V))) :
    Calls Try.prog 5 #[.bool false, .agg #[.int .i64 ty, .int .i64 co, .int .u32 wd, .slice A n0 c]] w fun o w' => o = .returned (.bool true) ∧ Below w.heap.size w w' := by
  obtain ⟨w1, hw1⟩ : ∃ w1, w1 = w.alloc (.cells #[.int .i64 ty, .int .i64 co, .int .u32 wd, .slice A n0 c] 46) := ⟨_, rfl⟩
  have E1 := Lib.hid hw1
  obtain ⟨g, hg⟩ : ∃ g, g = w.heap.size := ⟨_, rfl⟩
  have EG := Lib.hid hg
  have B1 := Lib.hid (show Below w.heap.size w w1 from by rw [hw1]; exact (Below.refl _ _).alloc (Nat.le_refl _) _)
  have K1 := Lib.hid (show Blk w1 g 46 #[.int .i64 ty, .int .i64 co, .int .u32 wd, .slice A n0 c] from by rw [hw1, hg]; exact Blk.new w _ _)
  obtain ⟨w2, hw2⟩ : ∃ w2, w2 = w1.setCell ⟨g, 3, none⟩ (.slice A n c) := ⟨_, rfl⟩
  have E2 := Lib.hid hw2
  have K2 := Lib.hid (show Blk w2 g 46 #[.int .i64 ty, .int .i64 co, .int .u32 wd, .slice A n c] from by rw [hw2]; exact K1.out.set_ 3 _)
  have B2 := Lib.hid (show Below w.heap.size w w2 from by
    rw [hw2]
    exact ((OnlyG.refl g w1).set 3 _).from B1.out (by rw [hg]; exact Nat.le_refl _))
  subst he hf
  have TE := Lib.hid (error_all false ty)
  have HTL := Lib.hid ht
  rw [ht] at TE
  clear hw1 hg hw2
  have m3 := K1.out.cell 3
  have z3 := K1.out.frozen 3
  go_enter Try.func5, Try.ntmps5
  go_upto_region 1 with fail
  rw [← E1.out, ← EG.out]
  go_wp2_with fail
  refine (HC.out _).mono ?_
  rintro o w' ⟨rfl, rfl⟩
  go_upto_region 2 with fail
  rw [← E2.out]
  clear m3 z3
  have m0 := K2.out.cell 0
  have m1 := K2.out.cell 1
  have m2 := K2.out.cell 2
  have m3 := K2.out.cell 3
  go_wp2_with fail
  refine (HQD.out _ B2.out).mono ?_
  rintro o w3 ⟨rfl, hb3⟩
  obtain ⟨w4, hw4⟩ : ∃ w4, w4 = w3.alloc (.cells #[.int .i64 0, .bool false, .int .u64 0, .int .u64 0, .bool false, .int .u64 0, .int .u64 0, .int .i64 0, .int .i64 0] 48) := ⟨_, rfl⟩
  have E4 := Lib.hid hw4
  have B34 := Lib.hid (show Below w3.heap.size w3 w4 from by rw [hw4]; exact (Below.refl _ _).alloc (Nat.le_refl _) _)
  have B24 := Lib.hid (hb3.trans (B34.out.mono hb3.size))
  have K4 := Lib.hid (show Blk w4 w3.heap.size 48 #[.int .i64 0, .bool false, .int .u64 0, .int .u64 0, .bool false, .int .u64 0, .int .u64 0, .int .i64 0, .int .i64 0] from by rw [hw4]; exact Blk.new w3 _ _)
  have K24 := Lib.hid (K2.out.below B24.out K2.out.lt)
  have B4 := Lib.hid (B2.out.trans (B24.out.mono B2.out.size))
  have SZ4 := Lib.hid (show w4.heap.size = w3.heap.size + 1 from by rw [hw4]; simp)
  have SZ3 := Lib.hid hb3.size
  clear hw4 hb3 m0 m1 m2 m3
  go_upto_region 3 with fail
  rw [← E4.out]
  have m0 := K24.out.cell 0
  go_upto_region 4 with fail
  go_cut [8] (fun v wx => v = .bool true ∧ wx = w4)
  case first =>
    have hh := HTL.out
    unfold tellsB at hh
    rw [if_neg (by decide)] at hh
    have hh := of_decide_eq_true hh
    have hh : ty = 3 ∨ ty = 4 ∨ ty = 5 ∨ ty = 11 ∨ ty = 12 := by omega
    rcases hh with hh | hh | hh | hh | hh
    · have e3 : (ty == 3) = true := by simp [hh]
      clear hh
      go_wp2_with fail; go_meet; exact ⟨rfl, rfl⟩
    · have e3 : (ty == 3) = false := by simp; omega
      have e4 : (ty == 4) = true := by simp [hh]
      clear hh
      go_wp2_with fail; go_meet; exact ⟨rfl, rfl⟩
    · have e3 : (ty == 3) = false := by simp; omega
      have e4 : (ty == 4) = false := by simp; omega
      have e5 : (ty == 5) = true := by simp [hh]
      clear hh
      go_wp2_with fail; go_meet; exact ⟨rfl, rfl⟩
    · have e3 : (ty == 3) = false := by simp; omega
      have e4 : (ty == 4) = false := by simp; omega
      have e5 : (ty == 5) = false := by simp; omega
      have e11 : (ty == 11) = true := by simp [hh]
      clear hh
      go_wp2_with fail; go_meet; exact ⟨rfl, rfl⟩
    · have e3 : (ty == 3) = false := by simp; omega
      have e4 : (ty == 4) = false := by simp; omega
      have e5 : (ty == 5) = false := by simp; omega
      have e11 : (ty == 11) = false := by simp; omega
      have e12 : (ty == 12) = true := by simp [hh]
      clear hh
      go_wp2_with fail; go_meet; exact ⟨rfl, rfl⟩
  case rest =>
  obtain ⟨rfl, hwc⟩ := hcut
  have hwc := hwc.symm
  subst hwc
  clear m0
  go_wp2_with fail
  refine (TE.out _).mono ?_
  rintro o w' ⟨rfl, rfl⟩
  obtain ⟨w5, hw5⟩ : ∃ w5, w5 = w4.alloc (.cells #[.int .i64 0, .bool false, .int .u64 0, .int .u64 0, .bool false, .int .u64 0, .int .u64 0, .int .i64 0, .int .i64 0] 48) := ⟨_, rfl⟩
  have E5 := Lib.hid hw5
  have B45 := Lib.hid (show Below w4.heap.size w4 w5 from by rw [hw5]; exact (Below.refl _ _).alloc (Nat.le_refl _) _)
  have K95 := Lib.hid (show Blk w5 w4.heap.size 48 #[.int .i64 0, .bool false, .int .u64 0, .int .u64 0, .bool false, .int .u64 0, .int .u64 0, .int .i64 0, .int .i64 0] from by rw [hw5]; exact Blk.new w4 _ _)
  have SZ5 := Lib.hid (show w5.heap.size = w4.heap.size + 1 from by rw [hw5]; simp)
  have B5 := Lib.hid (B4.out.trans (B45.out.mono B4.out.size))
  have K25 := Lib.hid (K24.out.below B45.out K24.out.lt)
  have K45 := Lib.hid (K4.out.below B45.out K4.out.lt)
  clear hw5
  go_upto_region 10 with fail
  rw [← E5.out]
  have m3 := K25.out.cell 3
  go_wp2_with fail
  refine (HQ.out _ B5.out).mono ?_
  rintro o w6 ⟨hb6, tos, id, df, mf, ttl, AO, no, co_, AR, nr, cr, rfl, hnr, hrow⟩
  obtain ⟨w7, hw7⟩ : ∃ w7, w7 = w6.alloc (.cells #[.int .i64 tos, .int .i64 id, .bool df, .bool mf, .int .i64 0, .int .i64 ttl, .int .i64 pr, .bool s6, .int .u64 sh, .int .u64 sl, .bool d6, .int .u64 dh, .int .u64 dl, .slice AO no co_] 53) := ⟨_, rfl⟩
  have E7 := Lib.hid hw7
  have B67 := Lib.hid (show Below w6.heap.size w6 w7 from by rw [hw7]; exact (Below.refl _ _).alloc (Nat.le_refl _) _)
  have B57 := Lib.hid (hb6.trans (B67.out.mono hb6.size))
  have K77 := Lib.hid (show Blk w7 w6.heap.size 53 #[.int .i64 tos, .int .i64 id, .bool df, .bool mf, .int .i64 0, .int .i64 ttl, .int .i64 pr, .bool s6, .int .u64 sh, .int .u64 sl, .bool d6, .int .u64 dh, .int .u64 dl, .slice AO no co_] from by rw [hw7]; exact Blk.new w6 _ _)
  have K97 := Lib.hid (K95.out.below B57.out K95.out.lt)
  have K47 := Lib.hid (K45.out.below B57.out K45.out.lt)
  have B7 := Lib.hid (B5.out.trans (B57.out.mono B5.out.size))
  have NE1 := Lib.hid (show w6.heap.size ≠ w4.heap.size from by have := hb6.size; have := SZ5.out; omega)
  have NE2 := Lib.hid (show w3.heap.size ≠ w4.heap.size from by have := SZ4.out; omega)
  have HNR := Lib.hid hnr
  have RW7 := Lib.hid (own_below2 hrow B67.out)
  obtain ⟨w8, hw8⟩ : ∃ w8, w8 = (((((((((w7.setCell ⟨w4.heap.size, 0, none⟩ (.int .i64 pr)).setCell ⟨w4.heap.size, 1, none⟩ (.bool s6)).setCell ⟨w4.heap.size, 2, none⟩ (.int .u64 sh)).setCell ⟨w4.heap.size, 3, none⟩ (.int .u64 sl)).setCell ⟨w4.heap.size, 4, none⟩ (.bool d6)).setCell ⟨w4.heap.size, 5, none⟩ (.int .u64 dh)).setCell ⟨w4.heap.size, 6, none⟩ (.int .u64 dl)).setCell ⟨w4.heap.size, 7, none⟩ (.int .i64 0)).setCell ⟨w4.heap.size, 8, none⟩ (.int .i64 0)) := ⟨_, rfl⟩
  have E8 := Lib.hid hw8
  have OG8 := Lib.hid (show OnlyG w4.heap.size w7 w8 from by rw [hw8]; exact tonly w7 w4.heap.size (.int .i64 pr) (.bool s6) (.int .u64 sh) (.int .u64 sl) (.bool d6) (.int .u64 dh) (.int .u64 dl) (.int .i64 0) (.int .i64 0))
  have K98 := Lib.hid (show Blk w8 w4.heap.size 48 #[.int .i64 pr, .bool s6, .int .u64 sh, .int .u64 sl, .bool d6, .int .u64 dh, .int .u64 dl, .int .i64 0, .int .i64 0] from by rw [hw8]; exact tstore w7 w4.heap.size (.int .i64 pr) (.bool s6) (.int .u64 sh) (.int .u64 sl) (.bool d6) (.int .u64 dh) (.int .u64 dl) (.int .i64 0) (.int .i64 0) _ _ _ _ _ _ _ _ _ K97.out)
  have K48 := Lib.hid (OG8.out.blk K47.out NE2.out)
  have K78 := Lib.hid (OG8.out.blk K77.out NE1.out)
  have RW8 := Lib.hid (own_els RW7.out (by have := SZ5.out; omega) (toEls OG8.out))
  have B8 := Lib.hid (OG8.out.from B7.out (by have := B4.out.size; omega))
  clear hw7 hw8 hb6 hnr hrow m3
  go_upto_region 20 with fail
  rw [← E7.out]
  have k0 := K77.out.cell 0
  have k1 := K77.out.cell 1
  have k2 := K77.out.cell 2
  have k3 := K77.out.cell 3
  have k4 := K77.out.cell 4
  have k5 := K77.out.cell 5
  have k6 := K77.out.cell 6
  have k7 := K77.out.cell 7
  have k8 := K77.out.cell 8
  have k9 := K77.out.cell 9
  have k10 := K77.out.cell 10
  have k11 := K77.out.cell 11
  have k12 := K77.out.cell 12
  have k13 := K77.out.cell 13
  have y0 := K97.out.cell 0
  have z0 := K97.out.frozen 0
  have y1 := K97.out.cell 1
  have z1 := K97.out.frozen 1
  have y2 := K97.out.cell 2
  have z2 := K97.out.frozen 2
  have y3 := K97.out.cell 3
  have z3 := K97.out.frozen 3
  have y4 := K97.out.cell 4
  have z4 := K97.out.frozen 4
  have y5 := K97.out.cell 5
  have z5 := K97.out.frozen 5
  have y6 := K97.out.cell 6
  have z6 := K97.out.frozen 6
  have y7 := K97.out.cell 7
  have z7 := K97.out.frozen 7
  have y8 := K97.out.cell 8
  have z8 := K97.out.frozen 8
  go_upto_region 21 with fail
  rw [← E8.out]
  clear k0 k1 k2 k3 k4 k5 k6 k7 k8 k9 k10 k11 k12 k13
  clear y0 y1 y2 y3 y4 y5 y6 y7 y8 z0 z1 z2 z3 z4 z5 z6 z7 z8
  have k0 := K78.out.cell 0
  have k1 := K78.out.cell 1
  have k2 := K78.out.cell 2
  have k3 := K78.out.cell 3
  have k4 := K78.out.cell 4
  have k5 := K78.out.cell 5
  have k6 := K78.out.cell 6
  have k7 := K78.out.cell 7
  have k8 := K78.out.cell 8
  have k9 := K78.out.cell 9
  have k10 := K78.out.cell 10
  have k11 := K78.out.cell 11
  have k12 := K78.out.cell 12
  have k13 := K78.out.cell 13
  have p6 : (pr != 6) = true := by simpa using hp.1
  have p17 : (pr != 17) = true := by simpa using hp.2
  clear hp
  have q0 := K48.out.cell 0
  have q1 := K48.out.cell 1
  have q2 := K48.out.cell 2
  have q3 := K48.out.cell 3
  have q4 := K48.out.cell 4
  have q5 := K48.out.cell 5
  have q6 := K48.out.cell 6
  have q7 := K48.out.cell 7
  have q8 := K48.out.cell 8
  have p0 := K98.out.cell 0
  go_wp2_with fail
  refine (Go.Proofs.Ytndekicblbpkjaa.icmpA.awake_any _).mono ?_
  rintro o w' ⟨rfl, rfl⟩
  go_wp2_with fail
  go_ret
  exact ⟨rfl, B8.out⟩
set_option maxHeartbeats 8000000 in
set_option maxRecDepth 100000 in
theorem law4_short (ty co wd : Int) (A : Option Addr) (n0 n c : Nat) (f fr pr : Int) (s6 : Bool) (sh sl : Int) (d6 : Bool) (dh dl : Int) (r : List Int) (w : World) (ht : tellsB false ty = true) (he : f = 0) (hf : fr = 0) (hp : pr = 6 ∨ pr = 17) (hr : r.length < 4)
    (HC : Hid (∀ W, Calls Try.prog 21 #[.slice A n0 c] W fun o w' => o = .returned (.slice A n c) ∧ W = w'))
    (HQD : Hid (∀ V, Below w.heap.size w V → Calls Try.prog 22 #[.bool false, .agg #[.int .i64 ty, .int .i64 co, .int .u32 wd, .slice A n c]] V fun o w' => o = .returned (.tuple #[.agg #[.int .i64 0, .bool false, .int .u64 0, .int .u64 0, .bool false, .int .u64 0, .int .u64 0, .int .i64 0, .int .i64 0], .int .i64 2]) ∧ Below V.heap.size V w'))
    (HQ : Hid (∀ V, Below w.heap.size w V → Calls Try.prog 26 #[.slice A n c] V (Q4 f fr pr s6 sh sl d6 dh dl r V))) :
    Calls Try.prog 5 #[.bool false, .agg #[.int .i64 ty, .int .i64 co, .int .u32 wd, .slice A n0 c]] w fun o w' => o = .returned (.bool true) ∧ Below w.heap.size w w' := by
  obtain ⟨w1, hw1⟩ : ∃ w1, w1 = w.alloc (.cells #[.int .i64 ty, .int .i64 co, .int .u32 wd, .slice A n0 c] 46) := ⟨_, rfl⟩
  have E1 := Lib.hid hw1
  obtain ⟨g, hg⟩ : ∃ g, g = w.heap.size := ⟨_, rfl⟩
  have EG := Lib.hid hg
  have B1 := Lib.hid (show Below w.heap.size w w1 from by rw [hw1]; exact (Below.refl _ _).alloc (Nat.le_refl _) _)
  have K1 := Lib.hid (show Blk w1 g 46 #[.int .i64 ty, .int .i64 co, .int .u32 wd, .slice A n0 c] from by rw [hw1, hg]; exact Blk.new w _ _)
  obtain ⟨w2, hw2⟩ : ∃ w2, w2 = w1.setCell ⟨g, 3, none⟩ (.slice A n c) := ⟨_, rfl⟩
  have E2 := Lib.hid hw2
  have K2 := Lib.hid (show Blk w2 g 46 #[.int .i64 ty, .int .i64 co, .int .u32 wd, .slice A n c] from by rw [hw2]; exact K1.out.set_ 3 _)
  have B2 := Lib.hid (show Below w.heap.size w w2 from by
    rw [hw2]
    exact ((OnlyG.refl g w1).set 3 _).from B1.out (by rw [hg]; exact Nat.le_refl _))
  subst he hf
  have TE := Lib.hid (error_all false ty)
  have HTL := Lib.hid ht
  rw [ht] at TE
  clear hw1 hg hw2
  have m3 := K1.out.cell 3
  have z3 := K1.out.frozen 3
  go_enter Try.func5, Try.ntmps5
  go_upto_region 1 with fail
  rw [← E1.out, ← EG.out]
  go_wp2_with fail
  refine (HC.out _).mono ?_
  rintro o w' ⟨rfl, rfl⟩
  go_upto_region 2 with fail
  rw [← E2.out]
  clear m3 z3
  have m0 := K2.out.cell 0
  have m1 := K2.out.cell 1
  have m2 := K2.out.cell 2
  have m3 := K2.out.cell 3
  go_wp2_with fail
  refine (HQD.out _ B2.out).mono ?_
  rintro o w3 ⟨rfl, hb3⟩
  obtain ⟨w4, hw4⟩ : ∃ w4, w4 = w3.alloc (.cells #[.int .i64 0, .bool false, .int .u64 0, .int .u64 0, .bool false, .int .u64 0, .int .u64 0, .int .i64 0, .int .i64 0] 48) := ⟨_, rfl⟩
  have E4 := Lib.hid hw4
  have B34 := Lib.hid (show Below w3.heap.size w3 w4 from by rw [hw4]; exact (Below.refl _ _).alloc (Nat.le_refl _) _)
  have B24 := Lib.hid (hb3.trans (B34.out.mono hb3.size))
  have K4 := Lib.hid (show Blk w4 w3.heap.size 48 #[.int .i64 0, .bool false, .int .u64 0, .int .u64 0, .bool false, .int .u64 0, .int .u64 0, .int .i64 0, .int .i64 0] from by rw [hw4]; exact Blk.new w3 _ _)
  have K24 := Lib.hid (K2.out.below B24.out K2.out.lt)
  have B4 := Lib.hid (B2.out.trans (B24.out.mono B2.out.size))
  have SZ4 := Lib.hid (show w4.heap.size = w3.heap.size + 1 from by rw [hw4]; simp)
  have SZ3 := Lib.hid hb3.size
  clear hw4 hb3 m0 m1 m2 m3
  go_upto_region 3 with fail
  rw [← E4.out]
  have m0 := K24.out.cell 0
  go_upto_region 4 with fail
  go_cut [8] (fun v wx => v = .bool true ∧ wx = w4)
  case first =>
    have hh := HTL.out
    unfold tellsB at hh
    rw [if_neg (by decide)] at hh
    have hh := of_decide_eq_true hh
    have hh : ty = 3 ∨ ty = 4 ∨ ty = 5 ∨ ty = 11 ∨ ty = 12 := by omega
    rcases hh with hh | hh | hh | hh | hh
    · have e3 : (ty == 3) = true := by simp [hh]
      clear hh
      go_wp2_with fail; go_meet; exact ⟨rfl, rfl⟩
    · have e3 : (ty == 3) = false := by simp; omega
      have e4 : (ty == 4) = true := by simp [hh]
      clear hh
      go_wp2_with fail; go_meet; exact ⟨rfl, rfl⟩
    · have e3 : (ty == 3) = false := by simp; omega
      have e4 : (ty == 4) = false := by simp; omega
      have e5 : (ty == 5) = true := by simp [hh]
      clear hh
      go_wp2_with fail; go_meet; exact ⟨rfl, rfl⟩
    · have e3 : (ty == 3) = false := by simp; omega
      have e4 : (ty == 4) = false := by simp; omega
      have e5 : (ty == 5) = false := by simp; omega
      have e11 : (ty == 11) = true := by simp [hh]
      clear hh
      go_wp2_with fail; go_meet; exact ⟨rfl, rfl⟩
    · have e3 : (ty == 3) = false := by simp; omega
      have e4 : (ty == 4) = false := by simp; omega
      have e5 : (ty == 5) = false := by simp; omega
      have e11 : (ty == 11) = false := by simp; omega
      have e12 : (ty == 12) = true := by simp [hh]
      clear hh
      go_wp2_with fail; go_meet; exact ⟨rfl, rfl⟩
  case rest =>
  obtain ⟨rfl, hwc⟩ := hcut
  have hwc := hwc.symm
  subst hwc
  clear m0
  go_wp2_with fail
  refine (TE.out _).mono ?_
  rintro o w' ⟨rfl, rfl⟩
  obtain ⟨w5, hw5⟩ : ∃ w5, w5 = w4.alloc (.cells #[.int .i64 0, .bool false, .int .u64 0, .int .u64 0, .bool false, .int .u64 0, .int .u64 0, .int .i64 0, .int .i64 0] 48) := ⟨_, rfl⟩
  have E5 := Lib.hid hw5
  have B45 := Lib.hid (show Below w4.heap.size w4 w5 from by rw [hw5]; exact (Below.refl _ _).alloc (Nat.le_refl _) _)
  have K95 := Lib.hid (show Blk w5 w4.heap.size 48 #[.int .i64 0, .bool false, .int .u64 0, .int .u64 0, .bool false, .int .u64 0, .int .u64 0, .int .i64 0, .int .i64 0] from by rw [hw5]; exact Blk.new w4 _ _)
  have SZ5 := Lib.hid (show w5.heap.size = w4.heap.size + 1 from by rw [hw5]; simp)
  have B5 := Lib.hid (B4.out.trans (B45.out.mono B4.out.size))
  have K25 := Lib.hid (K24.out.below B45.out K24.out.lt)
  have K45 := Lib.hid (K4.out.below B45.out K4.out.lt)
  clear hw5
  go_upto_region 10 with fail
  rw [← E5.out]
  have m3 := K25.out.cell 3
  go_wp2_with fail
  refine (HQ.out _ B5.out).mono ?_
  rintro o w6 ⟨hb6, tos, id, df, mf, ttl, AO, no, co_, AR, nr, cr, rfl, hnr, hrow⟩
  obtain ⟨w7, hw7⟩ : ∃ w7, w7 = w6.alloc (.cells #[.int .i64 tos, .int .i64 id, .bool df, .bool mf, .int .i64 0, .int .i64 ttl, .int .i64 pr, .bool s6, .int .u64 sh, .int .u64 sl, .bool d6, .int .u64 dh, .int .u64 dl, .slice AO no co_] 53) := ⟨_, rfl⟩
  have E7 := Lib.hid hw7
  have B67 := Lib.hid (show Below w6.heap.size w6 w7 from by rw [hw7]; exact (Below.refl _ _).alloc (Nat.le_refl _) _)
  have B57 := Lib.hid (hb6.trans (B67.out.mono hb6.size))
  have K77 := Lib.hid (show Blk w7 w6.heap.size 53 #[.int .i64 tos, .int .i64 id, .bool df, .bool mf, .int .i64 0, .int .i64 ttl, .int .i64 pr, .bool s6, .int .u64 sh, .int .u64 sl, .bool d6, .int .u64 dh, .int .u64 dl, .slice AO no co_] from by rw [hw7]; exact Blk.new w6 _ _)
  have K97 := Lib.hid (K95.out.below B57.out K95.out.lt)
  have K47 := Lib.hid (K45.out.below B57.out K45.out.lt)
  have B7 := Lib.hid (B5.out.trans (B57.out.mono B5.out.size))
  have NE1 := Lib.hid (show w6.heap.size ≠ w4.heap.size from by have := hb6.size; have := SZ5.out; omega)
  have NE2 := Lib.hid (show w3.heap.size ≠ w4.heap.size from by have := SZ4.out; omega)
  have HNR := Lib.hid hnr
  have RW7 := Lib.hid (own_below2 hrow B67.out)
  obtain ⟨w8, hw8⟩ : ∃ w8, w8 = (((((((((w7.setCell ⟨w4.heap.size, 0, none⟩ (.int .i64 pr)).setCell ⟨w4.heap.size, 1, none⟩ (.bool s6)).setCell ⟨w4.heap.size, 2, none⟩ (.int .u64 sh)).setCell ⟨w4.heap.size, 3, none⟩ (.int .u64 sl)).setCell ⟨w4.heap.size, 4, none⟩ (.bool d6)).setCell ⟨w4.heap.size, 5, none⟩ (.int .u64 dh)).setCell ⟨w4.heap.size, 6, none⟩ (.int .u64 dl)).setCell ⟨w4.heap.size, 7, none⟩ (.int .i64 0)).setCell ⟨w4.heap.size, 8, none⟩ (.int .i64 0)) := ⟨_, rfl⟩
  have E8 := Lib.hid hw8
  have OG8 := Lib.hid (show OnlyG w4.heap.size w7 w8 from by rw [hw8]; exact tonly w7 w4.heap.size (.int .i64 pr) (.bool s6) (.int .u64 sh) (.int .u64 sl) (.bool d6) (.int .u64 dh) (.int .u64 dl) (.int .i64 0) (.int .i64 0))
  have K98 := Lib.hid (show Blk w8 w4.heap.size 48 #[.int .i64 pr, .bool s6, .int .u64 sh, .int .u64 sl, .bool d6, .int .u64 dh, .int .u64 dl, .int .i64 0, .int .i64 0] from by rw [hw8]; exact tstore w7 w4.heap.size (.int .i64 pr) (.bool s6) (.int .u64 sh) (.int .u64 sl) (.bool d6) (.int .u64 dh) (.int .u64 dl) (.int .i64 0) (.int .i64 0) _ _ _ _ _ _ _ _ _ K97.out)
  have K48 := Lib.hid (OG8.out.blk K47.out NE2.out)
  have K78 := Lib.hid (OG8.out.blk K77.out NE1.out)
  have RW8 := Lib.hid (own_els RW7.out (by have := SZ5.out; omega) (toEls OG8.out))
  have B8 := Lib.hid (OG8.out.from B7.out (by have := B4.out.size; omega))
  clear hw7 hw8 hb6 hnr hrow m3
  go_upto_region 20 with fail
  rw [← E7.out]
  have k0 := K77.out.cell 0
  have k1 := K77.out.cell 1
  have k2 := K77.out.cell 2
  have k3 := K77.out.cell 3
  have k4 := K77.out.cell 4
  have k5 := K77.out.cell 5
  have k6 := K77.out.cell 6
  have k7 := K77.out.cell 7
  have k8 := K77.out.cell 8
  have k9 := K77.out.cell 9
  have k10 := K77.out.cell 10
  have k11 := K77.out.cell 11
  have k12 := K77.out.cell 12
  have k13 := K77.out.cell 13
  have y0 := K97.out.cell 0
  have z0 := K97.out.frozen 0
  have y1 := K97.out.cell 1
  have z1 := K97.out.frozen 1
  have y2 := K97.out.cell 2
  have z2 := K97.out.frozen 2
  have y3 := K97.out.cell 3
  have z3 := K97.out.frozen 3
  have y4 := K97.out.cell 4
  have z4 := K97.out.frozen 4
  have y5 := K97.out.cell 5
  have z5 := K97.out.frozen 5
  have y6 := K97.out.cell 6
  have z6 := K97.out.frozen 6
  have y7 := K97.out.cell 7
  have z7 := K97.out.frozen 7
  have y8 := K97.out.cell 8
  have z8 := K97.out.frozen 8
  go_upto_region 21 with fail
  rw [← E8.out]
  clear k0 k1 k2 k3 k4 k5 k6 k7 k8 k9 k10 k11 k12 k13
  clear y0 y1 y2 y3 y4 y5 y6 y7 y8 z0 z1 z2 z3 z4 z5 z6 z7 z8
  have k0 := K78.out.cell 0
  have k1 := K78.out.cell 1
  have k2 := K78.out.cell 2
  have k3 := K78.out.cell 3
  have k4 := K78.out.cell 4
  have k5 := K78.out.cell 5
  have k6 := K78.out.cell 6
  have k7 := K78.out.cell 7
  have k8 := K78.out.cell 8
  have k9 := K78.out.cell 9
  have k10 := K78.out.cell 10
  have k11 := K78.out.cell 11
  have k12 := K78.out.cell 12
  have k13 := K78.out.cell 13
  have tn : decide ((nr : Int) < 4) = true := decide_eq_true (by have := HNR.out; omega)
  have tnn : decide (nr < 4) = true := decide_eq_true (by have := HNR.out; omega)
  have q0 := K48.out.cell 0
  have q1 := K48.out.cell 1
  have q2 := K48.out.cell 2
  have q3 := K48.out.cell 3
  have q4 := K48.out.cell 4
  have q5 := K48.out.cell 5
  have q6 := K48.out.cell 6
  have q7 := K48.out.cell 7
  have q8 := K48.out.cell 8
  have p0 := K98.out.cell 0
  rcases hp with rfl | rfl
  · go_wp2_with fail
    refine (Go.Proofs.Ytndekicblbpkjaa.icmpA.awake_any _).mono ?_
    rintro o w' ⟨rfl, rfl⟩
    go_wp2_with fail
    go_ret
    exact ⟨rfl, B8.out⟩
  · go_wp2_with fail
    refine (Go.Proofs.Ytndekicblbpkjaa.icmpA.awake_any _).mono ?_
    rintro o w' ⟨rfl, rfl⟩
    go_wp2_with fail
    go_ret
    exact ⟨rfl, B8.out⟩
set_option maxHeartbeats 8000000 in
set_option maxRecDepth 100000 in
theorem law4_good (ty co wd : Int) (A : Option Addr) (n0 n c : Nat) (f fr pr : Int) (s6 : Bool) (sh sl : Int) (d6 : Bool) (dh dl : Int) (r : List Int) (w : World) (ht : tellsB false ty = true) (he : f = 0) (hf : fr = 0) (hp : pr = 6 ∨ pr = 17) (hr : 4 ≤ r.length) (hr2 : r.length ≤ 1000) (hu : U8 r) (sp dp : Int) (hsp : sp = 256 * r.getD 0 0 + r.getD 1 0) (hdp : dp = 256 * r.getD 2 0 + r.getD 3 0)
    (HC : Hid (∀ W, Calls Try.prog 21 #[.slice A n0 c] W fun o w' => o = .returned (.slice A n c) ∧ W = w'))
    (HQD : Hid (∀ V, Below w.heap.size w V → Calls Try.prog 22 #[.bool false, .agg #[.int .i64 ty, .int .i64 co, .int .u32 wd, .slice A n c]] V fun o w' => o = .returned (.tuple #[.agg #[.int .i64 pr, .bool s6, .int .u64 sh, .int .u64 sl, .bool d6, .int .u64 dh, .int .u64 dl, .int .i64 sp, .int .i64 dp], .int .i64 0]) ∧ Below V.heap.size V w'))
    (HQ : Hid (∀ V, Below w.heap.size w V → Calls Try.prog 26 #[.slice A n c] V (Q4 f fr pr s6 sh sl d6 dh dl r V))) :
    Calls Try.prog 5 #[.bool false, .agg #[.int .i64 ty, .int .i64 co, .int .u32 wd, .slice A n0 c]] w fun o w' => o = .returned (.bool true) ∧ Below w.heap.size w w' := by
  obtain ⟨w1, hw1⟩ : ∃ w1, w1 = w.alloc (.cells #[.int .i64 ty, .int .i64 co, .int .u32 wd, .slice A n0 c] 46) := ⟨_, rfl⟩
  have E1 := Lib.hid hw1
  obtain ⟨g, hg⟩ : ∃ g, g = w.heap.size := ⟨_, rfl⟩
  have EG := Lib.hid hg
  have B1 := Lib.hid (show Below w.heap.size w w1 from by rw [hw1]; exact (Below.refl _ _).alloc (Nat.le_refl _) _)
  have K1 := Lib.hid (show Blk w1 g 46 #[.int .i64 ty, .int .i64 co, .int .u32 wd, .slice A n0 c] from by rw [hw1, hg]; exact Blk.new w _ _)
  obtain ⟨w2, hw2⟩ : ∃ w2, w2 = w1.setCell ⟨g, 3, none⟩ (.slice A n c) := ⟨_, rfl⟩
  have E2 := Lib.hid hw2
  have K2 := Lib.hid (show Blk w2 g 46 #[.int .i64 ty, .int .i64 co, .int .u32 wd, .slice A n c] from by rw [hw2]; exact K1.out.set_ 3 _)
  have B2 := Lib.hid (show Below w.heap.size w w2 from by
    rw [hw2]
    exact ((OnlyG.refl g w1).set 3 _).from B1.out (by rw [hg]; exact Nat.le_refl _))
  subst he hf
  have HSPX := Lib.hid hsp
  have HDPX := Lib.hid hdp
  clear hsp hdp
  have TE := Lib.hid (error_all false ty)
  have HTL := Lib.hid ht
  rw [ht] at TE
  clear hw1 hg hw2
  have m3 := K1.out.cell 3
  have z3 := K1.out.frozen 3
  go_enter Try.func5, Try.ntmps5
  go_upto_region 1 with fail
  rw [← E1.out, ← EG.out]
  go_wp2_with fail
  refine (HC.out _).mono ?_
  rintro o w' ⟨rfl, rfl⟩
  go_upto_region 2 with fail
  rw [← E2.out]
  clear m3 z3
  have m0 := K2.out.cell 0
  have m1 := K2.out.cell 1
  have m2 := K2.out.cell 2
  have m3 := K2.out.cell 3
  go_wp2_with fail
  refine (HQD.out _ B2.out).mono ?_
  rintro o w3 ⟨rfl, hb3⟩
  obtain ⟨w4, hw4⟩ : ∃ w4, w4 = w3.alloc (.cells #[.int .i64 pr, .bool s6, .int .u64 sh, .int .u64 sl, .bool d6, .int .u64 dh, .int .u64 dl, .int .i64 sp, .int .i64 dp] 48) := ⟨_, rfl⟩
  have E4 := Lib.hid hw4
  have B34 := Lib.hid (show Below w3.heap.size w3 w4 from by rw [hw4]; exact (Below.refl _ _).alloc (Nat.le_refl _) _)
  have B24 := Lib.hid (hb3.trans (B34.out.mono hb3.size))
  have K4 := Lib.hid (show Blk w4 w3.heap.size 48 #[.int .i64 pr, .bool s6, .int .u64 sh, .int .u64 sl, .bool d6, .int .u64 dh, .int .u64 dl, .int .i64 sp, .int .i64 dp] from by rw [hw4]; exact Blk.new w3 _ _)
  have K24 := Lib.hid (K2.out.below B24.out K2.out.lt)
  have B4 := Lib.hid (B2.out.trans (B24.out.mono B2.out.size))
  have SZ4 := Lib.hid (show w4.heap.size = w3.heap.size + 1 from by rw [hw4]; simp)
  have SZ3 := Lib.hid hb3.size
  clear hw4 hb3 m0 m1 m2 m3
  go_upto_region 3 with fail
  rw [← E4.out]
  have m0 := K24.out.cell 0
  go_upto_region 4 with fail
  go_cut [8] (fun v wx => v = .bool true ∧ wx = w4)
  case first =>
    have hh := HTL.out
    unfold tellsB at hh
    rw [if_neg (by decide)] at hh
    have hh := of_decide_eq_true hh
    have hh : ty = 3 ∨ ty = 4 ∨ ty = 5 ∨ ty = 11 ∨ ty = 12 := by omega
    rcases hh with hh | hh | hh | hh | hh
    · have e3 : (ty == 3) = true := by simp [hh]
      clear hh
      go_wp2_with fail; go_meet; exact ⟨rfl, rfl⟩
    · have e3 : (ty == 3) = false := by simp; omega
      have e4 : (ty == 4) = true := by simp [hh]
      clear hh
      go_wp2_with fail; go_meet; exact ⟨rfl, rfl⟩
    · have e3 : (ty == 3) = false := by simp; omega
      have e4 : (ty == 4) = false := by simp; omega
      have e5 : (ty == 5) = true := by simp [hh]
      clear hh
      go_wp2_with fail; go_meet; exact ⟨rfl, rfl⟩
    · have e3 : (ty == 3) = false := by simp; omega
      have e4 : (ty == 4) = false := by simp; omega
      have e5 : (ty == 5) = false := by simp; omega
      have e11 : (ty == 11) = true := by simp [hh]
      clear hh
      go_wp2_with fail; go_meet; exact ⟨rfl, rfl⟩
    · have e3 : (ty == 3) = false := by simp; omega
      have e4 : (ty == 4) = false := by simp; omega
      have e5 : (ty == 5) = false := by simp; omega
      have e11 : (ty == 11) = false := by simp; omega
      have e12 : (ty == 12) = true := by simp [hh]
      clear hh
      go_wp2_with fail; go_meet; exact ⟨rfl, rfl⟩
  case rest =>
  obtain ⟨rfl, hwc⟩ := hcut
  have hwc := hwc.symm
  subst hwc
  clear m0
  go_wp2_with fail
  refine (TE.out _).mono ?_
  rintro o w' ⟨rfl, rfl⟩
  obtain ⟨w5, hw5⟩ : ∃ w5, w5 = w4.alloc (.cells #[.int .i64 0, .bool false, .int .u64 0, .int .u64 0, .bool false, .int .u64 0, .int .u64 0, .int .i64 0, .int .i64 0] 48) := ⟨_, rfl⟩
  have E5 := Lib.hid hw5
  have B45 := Lib.hid (show Below w4.heap.size w4 w5 from by rw [hw5]; exact (Below.refl _ _).alloc (Nat.le_refl _) _)
  have K95 := Lib.hid (show Blk w5 w4.heap.size 48 #[.int .i64 0, .bool false, .int .u64 0, .int .u64 0, .bool false, .int .u64 0, .int .u64 0, .int .i64 0, .int .i64 0] from by rw [hw5]; exact Blk.new w4 _ _)
  have SZ5 := Lib.hid (show w5.heap.size = w4.heap.size + 1 from by rw [hw5]; simp)
  have B5 := Lib.hid (B4.out.trans (B45.out.mono B4.out.size))
  have K25 := Lib.hid (K24.out.below B45.out K24.out.lt)
  have K45 := Lib.hid (K4.out.below B45.out K4.out.lt)
  clear hw5
  go_upto_region 10 with fail
  rw [← E5.out]
  have m3 := K25.out.cell 3
  go_wp2_with fail
  refine (HQ.out _ B5.out).mono ?_
  rintro o w6 ⟨hb6, tos, id, df, mf, ttl, AO, no, co_, AR, nr, cr, rfl, hnr, hrow⟩
  obtain ⟨w7, hw7⟩ : ∃ w7, w7 = w6.alloc (.cells #[.int .i64 tos, .int .i64 id, .bool df, .bool mf, .int .i64 0, .int .i64 ttl, .int .i64 pr, .bool s6, .int .u64 sh, .int .u64 sl, .bool d6, .int .u64 dh, .int .u64 dl, .slice AO no co_] 53) := ⟨_, rfl⟩
  have E7 := Lib.hid hw7
  have B67 := Lib.hid (show Below w6.heap.size w6 w7 from by rw [hw7]; exact (Below.refl _ _).alloc (Nat.le_refl _) _)
  have B57 := Lib.hid (hb6.trans (B67.out.mono hb6.size))
  have K77 := Lib.hid (show Blk w7 w6.heap.size 53 #[.int .i64 tos, .int .i64 id, .bool df, .bool mf, .int .i64 0, .int .i64 ttl, .int .i64 pr, .bool s6, .int .u64 sh, .int .u64 sl, .bool d6, .int .u64 dh, .int .u64 dl, .slice AO no co_] from by rw [hw7]; exact Blk.new w6 _ _)
  have K97 := Lib.hid (K95.out.below B57.out K95.out.lt)
  have K47 := Lib.hid (K45.out.below B57.out K45.out.lt)
  have B7 := Lib.hid (B5.out.trans (B57.out.mono B5.out.size))
  have NE1 := Lib.hid (show w6.heap.size ≠ w4.heap.size from by have := hb6.size; have := SZ5.out; omega)
  have NE2 := Lib.hid (show w3.heap.size ≠ w4.heap.size from by have := SZ4.out; omega)
  have HNR := Lib.hid hnr
  have RW7 := Lib.hid (own_below2 hrow B67.out)
  obtain ⟨w8, hw8⟩ : ∃ w8, w8 = (((((((((w7.setCell ⟨w4.heap.size, 0, none⟩ (.int .i64 pr)).setCell ⟨w4.heap.size, 1, none⟩ (.bool s6)).setCell ⟨w4.heap.size, 2, none⟩ (.int .u64 sh)).setCell ⟨w4.heap.size, 3, none⟩ (.int .u64 sl)).setCell ⟨w4.heap.size, 4, none⟩ (.bool d6)).setCell ⟨w4.heap.size, 5, none⟩ (.int .u64 dh)).setCell ⟨w4.heap.size, 6, none⟩ (.int .u64 dl)).setCell ⟨w4.heap.size, 7, none⟩ (.int .i64 0)).setCell ⟨w4.heap.size, 8, none⟩ (.int .i64 0)) := ⟨_, rfl⟩
  have E8 := Lib.hid hw8
  have OG8 := Lib.hid (show OnlyG w4.heap.size w7 w8 from by rw [hw8]; exact tonly w7 w4.heap.size (.int .i64 pr) (.bool s6) (.int .u64 sh) (.int .u64 sl) (.bool d6) (.int .u64 dh) (.int .u64 dl) (.int .i64 0) (.int .i64 0))
  have K98 := Lib.hid (show Blk w8 w4.heap.size 48 #[.int .i64 pr, .bool s6, .int .u64 sh, .int .u64 sl, .bool d6, .int .u64 dh, .int .u64 dl, .int .i64 0, .int .i64 0] from by rw [hw8]; exact tstore w7 w4.heap.size (.int .i64 pr) (.bool s6) (.int .u64 sh) (.int .u64 sl) (.bool d6) (.int .u64 dh) (.int .u64 dl) (.int .i64 0) (.int .i64 0) _ _ _ _ _ _ _ _ _ K97.out)
  have K48 := Lib.hid (OG8.out.blk K47.out NE2.out)
  have K78 := Lib.hid (OG8.out.blk K77.out NE1.out)
  have RW8 := Lib.hid (own_els RW7.out (by have := SZ5.out; omega) (toEls OG8.out))
  have B8 := Lib.hid (OG8.out.from B7.out (by have := B4.out.size; omega))
  clear hw7 hw8 hb6 hnr hrow m3
  go_upto_region 20 with fail
  rw [← E7.out]
  have k0 := K77.out.cell 0
  have k1 := K77.out.cell 1
  have k2 := K77.out.cell 2
  have k3 := K77.out.cell 3
  have k4 := K77.out.cell 4
  have k5 := K77.out.cell 5
  have k6 := K77.out.cell 6
  have k7 := K77.out.cell 7
  have k8 := K77.out.cell 8
  have k9 := K77.out.cell 9
  have k10 := K77.out.cell 10
  have k11 := K77.out.cell 11
  have k12 := K77.out.cell 12
  have k13 := K77.out.cell 13
  have y0 := K97.out.cell 0
  have z0 := K97.out.frozen 0
  have y1 := K97.out.cell 1
  have z1 := K97.out.frozen 1
  have y2 := K97.out.cell 2
  have z2 := K97.out.frozen 2
  have y3 := K97.out.cell 3
  have z3 := K97.out.frozen 3
  have y4 := K97.out.cell 4
  have z4 := K97.out.frozen 4
  have y5 := K97.out.cell 5
  have z5 := K97.out.frozen 5
  have y6 := K97.out.cell 6
  have z6 := K97.out.frozen 6
  have y7 := K97.out.cell 7
  have z7 := K97.out.frozen 7
  have y8 := K97.out.cell 8
  have z8 := K97.out.frozen 8
  go_upto_region 21 with fail
  rw [← E8.out]
  clear k0 k1 k2 k3 k4 k5 k6 k7 k8 k9 k10 k11 k12 k13
  clear y0 y1 y2 y3 y4 y5 y6 y7 y8 z0 z1 z2 z3 z4 z5 z6 z7 z8
  have k0 := K78.out.cell 0
  have k1 := K78.out.cell 1
  have k2 := K78.out.cell 2
  have k3 := K78.out.cell 3
  have k4 := K78.out.cell 4
  have k5 := K78.out.cell 5
  have k6 := K78.out.cell 6
  have k7 := K78.out.cell 7
  have k8 := K78.out.cell 8
  have k9 := K78.out.cell 9
  have k10 := K78.out.cell 10
  have k11 := K78.out.cell 11
  have k12 := K78.out.cell 12
  have k13 := K78.out.cell 13
  have tn : decide ((nr : Int) < 4) = false := decide_eq_false (by have := HNR.out; omega)
  have tnn : decide (nr < 4) = false := decide_eq_false (by have := HNR.out; omega)
  have q0 := K48.out.cell 0
  have q1 := K48.out.cell 1
  have q2 := K48.out.cell 2
  have q3 := K48.out.cell 3
  have q4 := K48.out.cell 4
  have q5 := K48.out.cell 5
  have q6 := K48.out.cell 6
  have q7 := K48.out.cell 7
  have q8 := K48.out.cell 8
  have p0 := K98.out.cell 0
  clear q0 p0
  have hsp := HSPX.out
  have hdp := HDPX.out
  obtain ⟨x0, e0⟩ : ∃ x, x = r.getD 0 0 := ⟨_, rfl⟩
  obtain ⟨x1, e1⟩ : ∃ x, x = r.getD 1 0 := ⟨_, rfl⟩
  obtain ⟨x2, e2⟩ : ∃ x, x = r.getD 2 0 := ⟨_, rfl⟩
  obtain ⟨x3, e3⟩ : ∃ x, x = r.getD 3 0 := ⟨_, rfl⟩
  have u0 := hu.get 0; have u1 := hu.get 1; have u2 := hu.get 2; have u3 := hu.get 3
  rw [← e0] at u0 hsp
  rw [← e1] at u1 hsp
  rw [← e2] at u2 hdp
  rw [← e3] at u3 hdp
  obtain ⟨gr, crr, hvr, hgr, _, hncr, _, hcell, _⟩ := own_form RW8.out (by have := HNR.out; omega)
  injection hvr with h1 h2 h3
  subst h1 h3
  have NER := Lib.hid (show gr ≠ w4.heap.size from by have := SZ5.out; omega)
  have HG9 := Lib.hid (show w.heap.size ≤ w4.heap.size from B4.out.size)
  have n4 : 4 ≤ nr := by have := HNR.out; omega
  have HRC := Lib.hid (show ∀ W : World, (∀ i u, w8.cell? ⟨gr, i, none⟩ = some u → W.cell? ⟨gr, i, none⟩ = some u) → W.cell? ⟨gr, 0, none⟩ = some (.int .u8 x0) ∧ W.cell? ⟨gr, 1, none⟩ = some (.int .u8 x1) ∧ W.cell? ⟨gr, 2, none⟩ = some (.int .u8 x2) ∧ W.cell? ⟨gr, 3, none⟩ = some (.int .u8 x3) from fun W h => by
    have key : ∀ i, i < 4 → w8.cell? ⟨gr, i, none⟩ = some (.int .u8 (r.getD i 0)) := fun i hi => by
      rw [hcell i (by omega), List.getElem?_map, List.getD_eq_getElem?_getD, List.getElem?_eq_getElem (by have := HNR.out; omega)]
      rfl
    rw [e0, e1, e2, e3]
    exact ⟨h 0 _ (key 0 (by omega)), h 1 _ (key 1 (by omega)), h 2 _ (key 2 (by omega)), h 3 _ (key 3 (by omega))⟩)
  have c0 : IntKind.i64.wrap x0 = x0 := IntWalk.i64_in _ (by omega)
  have c1 : IntKind.i64.wrap x1 = x1 := IntWalk.i64_in _ (by omega)
  have c2 : IntKind.i64.wrap x2 = x2 := IntWalk.i64_in _ (by omega)
  have c3 : IntKind.i64.wrap x3 = x3 := IntWalk.i64_in _ (by omega)
  have c4 : IntKind.i64.wrap (256 * x0) = 256 * x0 := IntWalk.i64_in _ (by omega)
  have c5 : IntKind.i64.wrap (256 * x2) = 256 * x2 := IntWalk.i64_in _ (by omega)
  have c6 : IntKind.i64.wrap (256 * x0 + x1) = sp := by rw [IntWalk.i64_in _ (by omega), hsp]
  have c7 : IntKind.i64.wrap (256 * x2 + x3) = dp := by rw [IntWalk.i64_in _ (by omega), hdp]
  have j0 : 0 < nr := by omega
  have j1 : 1 < nr := by omega
  have j2 : 2 < nr := by omega
  have j3 : 3 < nr := by omega
  have i1 : (1 : Int) < nr := by omega
  have i2 : (2 : Int) < nr := by omega
  have i3 : (3 : Int) < nr := by omega
  clear e0 e1 e2 e3 hsp hdp hu u0 u1 u2 u3 hcell hgr hncr hr hr2 n4
  rcases hp with rfl | rfl
  · have q0 := K48.out.cell 0
    have p0 := K98.out.cell 0
    go_upto_region 34 with fail
    clear q0 q1 q2 q3 q4 q5 q6 q7 q8 p0
    have y7 := K98.out.cell 7
    have z7 := K98.out.frozen 7
    have HS := Lib.hid (HRC.out w8.drew (fun i u h => h))
    have OA := Lib.hid (show OnlyG w4.heap.size w8 (w8.setCell ⟨w4.heap.size, 7, none⟩ (.int .i64 sp)) from (OnlyG.refl _ _).set 7 _)
    have HSA := Lib.hid (HRC.out (w8.setCell ⟨w4.heap.size, 7, none⟩ (.int .i64 sp)).drew (fun i u h => by rw [← h]; exact only_cell OA.out (p := ⟨gr, i, none⟩) NER.out))
    go_region_held3 (fun W => W.cell? ⟨gr, 0, none⟩ = some (.int .u8 x0) ∧ W.cell? ⟨gr, 1, none⟩ = some (.int .u8 x1) ∧ W.cell? ⟨gr, 2, none⟩ = some (.int .u8 x2) ∧ W.cell? ⟨gr, 3, none⟩ = some (.int .u8 x3)) (first | with_reducible assumption | with_reducible exact HS.out | with_reducible exact HSA.out) (first | fail)
    obtain ⟨wA, hwA⟩ : ∃ wA, wA = (w8.setCell ⟨w4.heap.size, 7, none⟩ (.int .i64 sp)).drew := ⟨_, rfl⟩
    have EA := Lib.hid hwA
    have KA9 := Lib.hid (show Blk wA w4.heap.size 48 #[.int .i64 6, .bool s6, .int .u64 sh, .int .u64 sl, .bool d6, .int .u64 dh, .int .u64 dl, .int .i64 sp, .int .i64 0] from by
      rw [hwA]
      have h9 := K98.out.set_ 7 (.int .i64 sp)
      exact h9.below (Below.refl _ _).drew h9.lt)
    have KA4 := Lib.hid (show Blk wA w3.heap.size 48 #[.int .i64 6, .bool s6, .int .u64 sh, .int .u64 sl, .bool d6, .int .u64 dh, .int .u64 dl, .int .i64 sp, .int .i64 dp] from by
      rw [hwA]
      have h9 := OA.out.blk K48.out NE2.out
      exact h9.below (Below.refl _ _).drew h9.lt)
    have HRA := Lib.hid (show ∀ i u, w8.cell? ⟨gr, i, none⟩ = some u → wA.cell? ⟨gr, i, none⟩ = some u from fun i u h => by rw [hwA, ← h]; exact only_cell OA.out (p := ⟨gr, i, none⟩) NER.out)
    have BA_ := Lib.hid (show Below w.heap.size w wA from by rw [hwA]; exact (OA.out.from B8.out HG9.out).drew)
    rw [← EA.out]
    clear hwA y7 z7 HS HSA
    have y8 := KA9.out.cell 8
    have z8 := KA9.out.frozen 8
    have HS := Lib.hid (HRC.out wA.drew HRA.out)
    have OB := Lib.hid (show OnlyG w4.heap.size wA (wA.setCell ⟨w4.heap.size, 8, none⟩ (.int .i64 dp)) from (OnlyG.refl _ _).set 8 _)
    have HSB := Lib.hid (HRC.out (wA.setCell ⟨w4.heap.size, 8, none⟩ (.int .i64 dp)).drew (fun i u h => by rw [← HRA.out i u h]; exact only_cell OB.out (p := ⟨gr, i, none⟩) NER.out))
    go_upto_region 35 with fail
    go_region_held3 (fun W => W.cell? ⟨gr, 0, none⟩ = some (.int .u8 x0) ∧ W.cell? ⟨gr, 1, none⟩ = some (.int .u8 x1) ∧ W.cell? ⟨gr, 2, none⟩ = some (.int .u8 x2) ∧ W.cell? ⟨gr, 3, none⟩ = some (.int .u8 x3)) (first | with_reducible assumption | with_reducible exact HS.out | with_reducible exact HSB.out) (first | fail)
    obtain ⟨wB, hwB⟩ : ∃ wB, wB = (wA.setCell ⟨w4.heap.size, 8, none⟩ (.int .i64 dp)).drew := ⟨_, rfl⟩
    have EB := Lib.hid hwB
    have KB9 := Lib.hid (show Blk wB w4.heap.size 48 #[.int .i64 6, .bool s6, .int .u64 sh, .int .u64 sl, .bool d6, .int .u64 dh, .int .u64 dl, .int .i64 sp, .int .i64 dp] from by
      rw [hwB]
      have h9 := KA9.out.set_ 8 (.int .i64 dp)
      exact h9.below (Below.refl _ _).drew h9.lt)
    have KB4 := Lib.hid (show Blk wB w3.heap.size 48 #[.int .i64 6, .bool s6, .int .u64 sh, .int .u64 sl, .bool d6, .int .u64 dh, .int .u64 dl, .int .i64 sp, .int .i64 dp] from by
      rw [hwB]
      have h9 := OB.out.blk KA4.out NE2.out
      exact h9.below (Below.refl _ _).drew h9.lt)
    have BB_ := Lib.hid (show Below w.heap.size w wB from by rw [hwB]; exact (OB.out.from BA_.out HG9.out).drew)
    rw [← EB.out]
    clear hwB y8 z8 HS HSB
    have q0 := KB4.out.cell 0
    have p0 := KB9.out.cell 0
    have q1 := KB4.out.cell 1
    have p1 := KB9.out.cell 1
    have q2 := KB4.out.cell 2
    have p2 := KB9.out.cell 2
    have q3 := KB4.out.cell 3
    have p3 := KB9.out.cell 3
    have q4 := KB4.out.cell 4
    have p4 := KB9.out.cell 4
    have q5 := KB4.out.cell 5
    have p5 := KB9.out.cell 5
    have q6 := KB4.out.cell 6
    have p6 := KB9.out.cell 6
    have q7 := KB4.out.cell 7
    have p7 := KB9.out.cell 7
    have q8 := KB4.out.cell 8
    have p8 := KB9.out.cell 8
    go_wp2_with fail
    refine (Go.Proofs.Ytndekicblbpkjaa.icmpA.awake_any _).mono ?_
    rintro o w' ⟨rfl, rfl⟩
    go_wp2_with fail
    go_ret
    exact ⟨rfl, BB_.out⟩
  · have q0 := K48.out.cell 0
    have p0 := K98.out.cell 0
    go_upto_region 34 with fail
    clear q0 q1 q2 q3 q4 q5 q6 q7 q8 p0
    have y7 := K98.out.cell 7
    have z7 := K98.out.frozen 7
    have HS := Lib.hid (HRC.out w8.drew (fun i u h => h))
    have OA := Lib.hid (show OnlyG w4.heap.size w8 (w8.setCell ⟨w4.heap.size, 7, none⟩ (.int .i64 sp)) from (OnlyG.refl _ _).set 7 _)
    have HSA := Lib.hid (HRC.out (w8.setCell ⟨w4.heap.size, 7, none⟩ (.int .i64 sp)).drew (fun i u h => by rw [← h]; exact only_cell OA.out (p := ⟨gr, i, none⟩) NER.out))
    go_region_held3 (fun W => W.cell? ⟨gr, 0, none⟩ = some (.int .u8 x0) ∧ W.cell? ⟨gr, 1, none⟩ = some (.int .u8 x1) ∧ W.cell? ⟨gr, 2, none⟩ = some (.int .u8 x2) ∧ W.cell? ⟨gr, 3, none⟩ = some (.int .u8 x3)) (first | with_reducible assumption | with_reducible exact HS.out | with_reducible exact HSA.out) (first | fail)
    obtain ⟨wA, hwA⟩ : ∃ wA, wA = (w8.setCell ⟨w4.heap.size, 7, none⟩ (.int .i64 sp)).drew := ⟨_, rfl⟩
    have EA := Lib.hid hwA
    have KA9 := Lib.hid (show Blk wA w4.heap.size 48 #[.int .i64 17, .bool s6, .int .u64 sh, .int .u64 sl, .bool d6, .int .u64 dh, .int .u64 dl, .int .i64 sp, .int .i64 0] from by
      rw [hwA]
      have h9 := K98.out.set_ 7 (.int .i64 sp)
      exact h9.below (Below.refl _ _).drew h9.lt)
    have KA4 := Lib.hid (show Blk wA w3.heap.size 48 #[.int .i64 17, .bool s6, .int .u64 sh, .int .u64 sl, .bool d6, .int .u64 dh, .int .u64 dl, .int .i64 sp, .int .i64 dp] from by
      rw [hwA]
      have h9 := OA.out.blk K48.out NE2.out
      exact h9.below (Below.refl _ _).drew h9.lt)
    have HRA := Lib.hid (show ∀ i u, w8.cell? ⟨gr, i, none⟩ = some u → wA.cell? ⟨gr, i, none⟩ = some u from fun i u h => by rw [hwA, ← h]; exact only_cell OA.out (p := ⟨gr, i, none⟩) NER.out)
    have BA_ := Lib.hid (show Below w.heap.size w wA from by rw [hwA]; exact (OA.out.from B8.out HG9.out).drew)
    rw [← EA.out]
    clear hwA y7 z7 HS HSA
    have y8 := KA9.out.cell 8
    have z8 := KA9.out.frozen 8
    have HS := Lib.hid (HRC.out wA.drew HRA.out)
    have OB := Lib.hid (show OnlyG w4.heap.size wA (wA.setCell ⟨w4.heap.size, 8, none⟩ (.int .i64 dp)) from (OnlyG.refl _ _).set 8 _)
    have HSB := Lib.hid (HRC.out (wA.setCell ⟨w4.heap.size, 8, none⟩ (.int .i64 dp)).drew (fun i u h => by rw [← HRA.out i u h]; exact only_cell OB.out (p := ⟨gr, i, none⟩) NER.out))
    go_upto_region 35 with fail
    go_region_held3 (fun W => W.cell? ⟨gr, 0, none⟩ = some (.int .u8 x0) ∧ W.cell? ⟨gr, 1, none⟩ = some (.int .u8 x1) ∧ W.cell? ⟨gr, 2, none⟩ = some (.int .u8 x2) ∧ W.cell? ⟨gr, 3, none⟩ = some (.int .u8 x3)) (first | with_reducible assumption | with_reducible exact HS.out | with_reducible exact HSB.out) (first | fail)
    obtain ⟨wB, hwB⟩ : ∃ wB, wB = (wA.setCell ⟨w4.heap.size, 8, none⟩ (.int .i64 dp)).drew := ⟨_, rfl⟩
    have EB := Lib.hid hwB
    have KB9 := Lib.hid (show Blk wB w4.heap.size 48 #[.int .i64 17, .bool s6, .int .u64 sh, .int .u64 sl, .bool d6, .int .u64 dh, .int .u64 dl, .int .i64 sp, .int .i64 dp] from by
      rw [hwB]
      have h9 := KA9.out.set_ 8 (.int .i64 dp)
      exact h9.below (Below.refl _ _).drew h9.lt)
    have KB4 := Lib.hid (show Blk wB w3.heap.size 48 #[.int .i64 17, .bool s6, .int .u64 sh, .int .u64 sl, .bool d6, .int .u64 dh, .int .u64 dl, .int .i64 sp, .int .i64 dp] from by
      rw [hwB]
      have h9 := OB.out.blk KA4.out NE2.out
      exact h9.below (Below.refl _ _).drew h9.lt)
    have BB_ := Lib.hid (show Below w.heap.size w wB from by rw [hwB]; exact (OB.out.from BA_.out HG9.out).drew)
    rw [← EB.out]
    clear hwB y8 z8 HS HSB
    have q0 := KB4.out.cell 0
    have p0 := KB9.out.cell 0
    have q1 := KB4.out.cell 1
    have p1 := KB9.out.cell 1
    have q2 := KB4.out.cell 2
    have p2 := KB9.out.cell 2
    have q3 := KB4.out.cell 3
    have p3 := KB9.out.cell 3
    have q4 := KB4.out.cell 4
    have p4 := KB9.out.cell 4
    have q5 := KB4.out.cell 5
    have p5 := KB9.out.cell 5
    have q6 := KB4.out.cell 6
    have p6 := KB9.out.cell 6
    have q7 := KB4.out.cell 7
    have p7 := KB9.out.cell 7
    have q8 := KB4.out.cell 8
    have p8 := KB9.out.cell 8
    go_wp2_with fail
    refine (Go.Proofs.Ytndekicblbpkjaa.icmpA.awake_any _).mono ?_
    rintro o w' ⟨rfl, rfl⟩
    go_wp2_with fail
    go_ret
    exact ⟨rfl, BB_.out⟩
end Go.Proofs.Ytndekicblbpkjaa.icmpJ
/- Layer 12: the law IcmpQuotes, way by way. -/
namespace Go.Proofs.Ytndekicblbpkjaa.icmpK
open Go.ChangeShapes Go.WideShapes Go.ChangeAt Go.RowKit
open Go.Proofs.Ytndekicblbpkjaa.base Go.Proofs.Ytndekicblbpkjaa.octA Go.Proofs.Ytndekicblbpkjaa.octB Go.Proofs.Ytndekicblbpkjaa.octC Go.Proofs.Ytndekicblbpkjaa.octF Go.Proofs.Ytndekicblbpkjaa.octK Go.Proofs.Ytndekicblbpkjaa.net Go.Proofs.Ytndekicblbpkjaa.rdrA Go.Proofs.Ytndekicblbpkjaa.rdrG Go.Proofs.Ytndekicblbpkjaa.sumA Go.Proofs.Ytndekicblbpkjaa.sumB Go.Proofs.Ytndekicblbpkjaa.udpA Go.Proofs.Ytndekicblbpkjaa.tcpC Go.Proofs.Ytndekicblbpkjaa.sixW Go.Proofs.Ytndekicblbpkjaa.sixM Go.Proofs.Ytndekicblbpkjaa.sixA Go.Proofs.Ytndekicblbpkjaa.sixB Go.Proofs.Ytndekicblbpkjaa.sixC Go.Proofs.Ytndekicblbpkjaa.sixD Go.Proofs.Ytndekicblbpkjaa.sixE Go.Proofs.Ytndekicblbpkjaa.sixF Go.Proofs.Ytndekicblbpkjaa.icmpA Go.Proofs.Ytndekicblbpkjaa.icmpH Go.Proofs.Ytndekicblbpkjaa.icmpI
set_option linter.unusedVariables false

theorem only_cell {g : Nat} {w w' : World} (h : OnlyG g w w') {p : Addr} (hp : p.block ≠ g) : w'.cell? p = w.cell? p := by
  have := h.els p.block hp
  simp [World.cell?, this]
set_option maxHeartbeats 8000000 in
set_option maxRecDepth 100000 in
theorem law6_not (ty co wd : Int) (A : Option Addr) (n0 n c : Nat) (f fr pr : Int) (s6 : Bool) (sh sl : Int) (d6 : Bool) (dh dl : Int) (r : List Int) (w : World) (ht : tellsB true ty = false) 
    (HC : Hid (∀ W, Calls Try.prog 21 #[.slice A n0 c] W fun o w' => o = .returned (.slice A n c) ∧ W = w'))
    (HQD : Hid (∀ V, Below w.heap.size w V → Calls Try.prog 22 #[.bool true, .agg #[.int .i64 ty, .int .i64 co, .int .u32 wd, .slice A n c]] V fun o w' => o = .returned (.tuple #[.agg #[.int .i64 0, .bool false, .int .u64 0, .int .u64 0, .bool false, .int .u64 0, .int .u64 0, .int .i64 0, .int .i64 0], .int .i64 24]) ∧ Below V.heap.size V w')) :
    Calls Try.prog 5 #[.bool true, .agg #[.int .i64 ty, .int .i64 co, .int .u32 wd, .slice A n0 c]] w fun o w' => o = .returned (.bool true) ∧ Below w.heap.size w w' := by
  obtain ⟨w1, hw1⟩ : ∃ w1, w1 = w.alloc (.cells #[.int .i64 ty, .int .i64 co, .int .u32 wd, .slice A n0 c] 46) := ⟨_, rfl⟩
  have E1 := Lib.hid hw1
  obtain ⟨g, hg⟩ : ∃ g, g = w.heap.size := ⟨_, rfl⟩
  have EG := Lib.hid hg
  have B1 := Lib.hid (show Below w.heap.size w w1 from by rw [hw1]; exact (Below.refl _ _).alloc (Nat.le_refl _) _)
  have K1 := Lib.hid (show Blk w1 g 46 #[.int .i64 ty, .int .i64 co, .int .u32 wd, .slice A n0 c] from by rw [hw1, hg]; exact Blk.new w _ _)
  obtain ⟨w2, hw2⟩ : ∃ w2, w2 = w1.setCell ⟨g, 3, none⟩ (.slice A n c) := ⟨_, rfl⟩
  have E2 := Lib.hid hw2
  have K2 := Lib.hid (show Blk w2 g 46 #[.int .i64 ty, .int .i64 co, .int .u32 wd, .slice A n c] from by rw [hw2]; exact K1.out.set_ 3 _)
  have B2 := Lib.hid (show Below w.heap.size w w2 from by
    rw [hw2]
    exact ((OnlyG.refl g w1).set 3 _).from B1.out (by rw [hg]; exact Nat.le_refl _))
  have TE := Lib.hid (error_all true ty)
  have HTL := Lib.hid ht
  rw [ht] at TE
  clear hw1 hg hw2
  have m3 := K1.out.cell 3
  have z3 := K1.out.frozen 3
  go_enter Try.func5, Try.ntmps5
  go_upto_region 1 with fail
  rw [← E1.out, ← EG.out]
  go_wp2_with fail
  refine (HC.out _).mono ?_
  rintro o w' ⟨rfl, rfl⟩
  go_upto_region 2 with fail
  rw [← E2.out]
  clear m3 z3
  have m0 := K2.out.cell 0
  have m1 := K2.out.cell 1
  have m2 := K2.out.cell 2
  have m3 := K2.out.cell 3
  go_wp2_with fail
  refine (HQD.out _ B2.out).mono ?_
  rintro o w3 ⟨rfl, hb3⟩
  obtain ⟨w4, hw4⟩ : ∃ w4, w4 = w3.alloc (.cells #[.int .i64 0, .bool false, .int .u64 0, .int .u64 0, .bool false, .int .u64 0, .int .u64 0, .int .i64 0, .int .i64 0] 48) := ⟨_, rfl⟩
  have E4 := Lib.hid hw4
  have B34 := Lib.hid (show Below w3.heap.size w3 w4 from by rw [hw4]; exact (Below.refl _ _).alloc (Nat.le_refl _) _)
  have B24 := Lib.hid (hb3.trans (B34.out.mono hb3.size))
  have K4 := Lib.hid (show Blk w4 w3.heap.size 48 #[.int .i64 0, .bool false, .int .u64 0, .int .u64 0, .bool false, .int .u64 0, .int .u64 0, .int .i64 0, .int .i64 0] from by rw [hw4]; exact Blk.new w3 _ _)
  have K24 := Lib.hid (K2.out.below B24.out K2.out.lt)
  have B4 := Lib.hid (B2.out.trans (B24.out.mono B2.out.size))
  have SZ4 := Lib.hid (show w4.heap.size = w3.heap.size + 1 from by rw [hw4]; simp)
  have SZ3 := Lib.hid hb3.size
  clear hw4 hb3 m0 m1 m2 m3
  go_upto_region 3 with fail
  rw [← E4.out]
  have m0 := K24.out.cell 0
  go_upto_region 4 with fail
  go_cut [8] (fun v wx => v = .bool false ∧ wx = w4)
  case first =>
    have hh := HTL.out
    unfold tellsB at hh
    rw [if_pos rfl] at hh
    have hh := of_decide_eq_false hh
    rcases Int.lt_or_le ty 1 with h1 | h1
    · have e1 : decide (1 ≤ ty) = false := decide_eq_false (by omega)
      clear hh h1
      go_wp2_with fail; go_meet; exact ⟨rfl, rfl⟩
    · have e1 : decide (1 ≤ ty) = true := decide_eq_true h1
      have e4 : decide (ty ≤ 4) = false := decide_eq_false (by omega)
      clear hh h1
      go_wp2_with fail; go_meet; exact ⟨rfl, rfl⟩
  case rest =>
  obtain ⟨rfl, hwc⟩ := hcut
  have hwc := hwc.symm
  subst hwc
  clear m0
  go_wp2_with fail
  refine (TE.out _).mono ?_
  rintro o w' ⟨rfl, rfl⟩
  have q0 := K4.out.cell 0
  have q1 := K4.out.cell 1
  have q2 := K4.out.cell 2
  have q3 := K4.out.cell 3
  have q4 := K4.out.cell 4
  have q5 := K4.out.cell 5
  have q6 := K4.out.cell 6
  have q7 := K4.out.cell 7
  have q8 := K4.out.cell 8
  go_wp2_with fail
  refine (Go.Proofs.Ytndekicblbpkjaa.icmpA.awake_any _).mono ?_
  rintro o w' ⟨rfl, rfl⟩
  go_wp2_with fail
  go_ret
  exact ⟨rfl, B4.out⟩
set_option maxHeartbeats 8000000 in
set_option maxRecDepth 100000 in
theorem law6_err (ty co wd : Int) (A : Option Addr) (n0 n c : Nat) (f fr pr : Int) (s6 : Bool) (sh sl : Int) (d6 : Bool) (dh dl : Int) (r : List Int) (w : World) (ht : tellsB true ty = true) (he : f ≠ 0)
    (HC : Hid (∀ W, Calls Try.prog 21 #[.slice A n0 c] W fun o w' => o = .returned (.slice A n c) ∧ W = w'))
    (HQD : Hid (∀ V, Below w.heap.size w V → Calls Try.prog 22 #[.bool true, .agg #[.int .i64 ty, .int .i64 co, .int .u32 wd, .slice A n c]] V fun o w' => o = .returned (.tuple #[.agg #[.int .i64 0, .bool false, .int .u64 0, .int .u64 0, .bool false, .int .u64 0, .int .u64 0, .int .i64 0, .int .i64 0], .int .i64 f]) ∧ Below V.heap.size V w'))
    (HQ : Hid (∀ V, Below w.heap.size w V → Calls Try.prog 12 #[.slice A n c] V (Q6 f fr pr s6 sh sl d6 dh dl r V))) :
    Calls Try.prog 5 #[.bool true, .agg #[.int .i64 ty, .int .i64 co, .int .u32 wd, .slice A n0 c]] w fun o w' => o = .returned (.bool true) ∧ Below w.heap.size w w' := by
  obtain ⟨w1, hw1⟩ : ∃ w1, w1 = w.alloc (.cells #[.int .i64 ty, .int .i64 co, .int .u32 wd, .slice A n0 c] 46) := ⟨_, rfl⟩
  have E1 := Lib.hid hw1
  obtain ⟨g, hg⟩ : ∃ g, g = w.heap.size := ⟨_, rfl⟩
  have EG := Lib.hid hg
  have B1 := Lib.hid (show Below w.heap.size w w1 from by rw [hw1]; exact (Below.refl _ _).alloc (Nat.le_refl _) _)
  have K1 := Lib.hid (show Blk w1 g 46 #[.int .i64 ty, .int .i64 co, .int .u32 wd, .slice A n0 c] from by rw [hw1, hg]; exact Blk.new w _ _)
  obtain ⟨w2, hw2⟩ : ∃ w2, w2 = w1.setCell ⟨g, 3, none⟩ (.slice A n c) := ⟨_, rfl⟩
  have E2 := Lib.hid hw2
  have K2 := Lib.hid (show Blk w2 g 46 #[.int .i64 ty, .int .i64 co, .int .u32 wd, .slice A n c] from by rw [hw2]; exact K1.out.set_ 3 _)
  have B2 := Lib.hid (show Below w.heap.size w w2 from by
    rw [hw2]
    exact ((OnlyG.refl g w1).set 3 _).from B1.out (by rw [hg]; exact Nat.le_refl _))
  have TE := Lib.hid (error_all true ty)
  have HTL := Lib.hid ht
  rw [ht] at TE
  clear hw1 hg hw2
  have m3 := K1.out.cell 3
  have z3 := K1.out.frozen 3
  go_enter Try.func5, Try.ntmps5
  go_upto_region 1 with fail
  rw [← E1.out, ← EG.out]
  go_wp2_with fail
  refine (HC.out _).mono ?_
  rintro o w' ⟨rfl, rfl⟩
  go_upto_region 2 with fail
  rw [← E2.out]
  clear m3 z3
  have m0 := K2.out.cell 0
  have m1 := K2.out.cell 1
  have m2 := K2.out.cell 2
  have m3 := K2.out.cell 3
  go_wp2_with fail
  refine (HQD.out _ B2.out).mono ?_
  rintro o w3 ⟨rfl, hb3⟩
  obtain ⟨w4, hw4⟩ : ∃ w4, w4 = w3.alloc (.cells #[.int .i64 0, .bool false, .int .u64 0, .int .u64 0, .bool false, .int .u64 0, .int .u64 0, .int .i64 0, .int .i64 0] 48) := ⟨_, rfl⟩
  have E4 := Lib.hid hw4
  have B34 := Lib.hid (show Below w3.heap.size w3 w4 from by rw [hw4]; exact (Below.refl _ _).alloc (Nat.le_refl _) _)
  have B24 := Lib.hid (hb3.trans (B34.out.mono hb3.size))
  have K4 := Lib.hid (show Blk w4 w3.heap.size 48 #[.int .i64 0, .bool false, .int .u64 0, .int .u64 0, .bool false, .int .u64 0, .int .u64 0, .int .i64 0, .int .i64 0] from by rw [hw4]; exact Blk.new w3 _ _)
  have K24 := Lib.hid (K2.out.below B24.out K2.out.lt)
  have B4 := Lib.hid (B2.out.trans (B24.out.mono B2.out.size))
  have SZ4 := Lib.hid (show w4.heap.size = w3.heap.size + 1 from by rw [hw4]; simp)
  have SZ3 := Lib.hid hb3.size
  clear hw4 hb3 m0 m1 m2 m3
  go_upto_region 3 with fail
  rw [← E4.out]
  have m0 := K24.out.cell 0
  go_upto_region 4 with fail
  go_cut [8] (fun v wx => v = .bool true ∧ wx = w4)
  case first =>
    have hh := HTL.out
    unfold tellsB at hh
    rw [if_pos rfl] at hh
    have hh := of_decide_eq_true hh
    have e1 : decide (1 ≤ ty) = true := decide_eq_true hh.1
    have e4 : decide (ty ≤ 4) = true := decide_eq_true hh.2
    clear hh
    go_wp2_with fail; go_meet; exact ⟨rfl, rfl⟩
  case rest =>
  obtain ⟨rfl, hwc⟩ := hcut
  have hwc := hwc.symm
  subst hwc
  clear m0
  go_wp2_with fail
  refine (TE.out _).mono ?_
  rintro o w' ⟨rfl, rfl⟩
  obtain ⟨w5, hw5⟩ : ∃ w5, w5 = w4.alloc (.cells #[.int .i64 0, .bool false, .int .u64 0, .int .u64 0, .bool false, .int .u64 0, .int .u64 0, .int .i64 0, .int .i64 0] 48) := ⟨_, rfl⟩
  have E5 := Lib.hid hw5
  have B45 := Lib.hid (show Below w4.heap.size w4 w5 from by rw [hw5]; exact (Below.refl _ _).alloc (Nat.le_refl _) _)
  have K95 := Lib.hid (show Blk w5 w4.heap.size 48 #[.int .i64 0, .bool false, .int .u64 0, .int .u64 0, .bool false, .int .u64 0, .int .u64 0, .int .i64 0, .int .i64 0] from by rw [hw5]; exact Blk.new w4 _ _)
  have SZ5 := Lib.hid (show w5.heap.size = w4.heap.size + 1 from by rw [hw5]; simp)
  have B5 := Lib.hid (B4.out.trans (B45.out.mono B4.out.size))
  have K25 := Lib.hid (K24.out.below B45.out K24.out.lt)
  have K45 := Lib.hid (K4.out.below B45.out K4.out.lt)
  clear hw5
  go_upto_region 10 with fail
  rw [← E5.out]
  have m3 := K25.out.cell 3
  go_wp2_with fail
  refine (HQ.out _ B5.out).mono ?_
  rintro o w6 ⟨hb6, cls, lab, hop, Lx, Ax, nx, cx, AR, nr, cr, rfl, hL, hn, hgx, hux, hfr, hnr, hrow⟩
  obtain ⟨w7, hw7⟩ : ∃ w7, w7 = w6.alloc (.cells #[.int .i64 cls, .int .i64 lab, .int .i64 hop, .bool s6, .int .u64 sh, .int .u64 sl, .bool d6, .int .u64 dh, .int .u64 dl, .slice Ax nx cx, .int .i64 pr] 29) := ⟨_, rfl⟩
  have E7 := Lib.hid hw7
  have B67 := Lib.hid (show Below w6.heap.size w6 w7 from by rw [hw7]; exact (Below.refl _ _).alloc (Nat.le_refl _) _)
  have B57 := Lib.hid (hb6.trans (B67.out.mono hb6.size))
  have K77 := Lib.hid (show Blk w7 w6.heap.size 29 #[.int .i64 cls, .int .i64 lab, .int .i64 hop, .bool s6, .int .u64 sh, .int .u64 sl, .bool d6, .int .u64 dh, .int .u64 dl, .slice Ax nx cx, .int .i64 pr] from by rw [hw7]; exact Blk.new w6 _ _)
  have K97 := Lib.hid (K95.out.below B57.out K95.out.lt)
  have K47 := Lib.hid (K45.out.below B57.out K45.out.lt)
  have B7 := Lib.hid (B5.out.trans (B57.out.mono B5.out.size))
  have NE1 := Lib.hid (show w6.heap.size ≠ w4.heap.size from by have := hb6.size; have := SZ5.out; omega)
  have NE2 := Lib.hid (show w3.heap.size ≠ w4.heap.size from by have := SZ4.out; omega)
  have HNR := Lib.hid hnr
  have RW7 := Lib.hid (own_below2 hrow B67.out)
  obtain ⟨w8, hw8⟩ : ∃ w8, w8 = (((((((((w7.setCell ⟨w4.heap.size, 0, none⟩ (.int .i64 pr)).setCell ⟨w4.heap.size, 1, none⟩ (.bool s6)).setCell ⟨w4.heap.size, 2, none⟩ (.int .u64 sh)).setCell ⟨w4.heap.size, 3, none⟩ (.int .u64 sl)).setCell ⟨w4.heap.size, 4, none⟩ (.bool d6)).setCell ⟨w4.heap.size, 5, none⟩ (.int .u64 dh)).setCell ⟨w4.heap.size, 6, none⟩ (.int .u64 dl)).setCell ⟨w4.heap.size, 7, none⟩ (.int .i64 0)).setCell ⟨w4.heap.size, 8, none⟩ (.int .i64 0)) := ⟨_, rfl⟩
  have E8 := Lib.hid hw8
  have OG8 := Lib.hid (show OnlyG w4.heap.size w7 w8 from by rw [hw8]; exact tonly w7 w4.heap.size (.int .i64 pr) (.bool s6) (.int .u64 sh) (.int .u64 sl) (.bool d6) (.int .u64 dh) (.int .u64 dl) (.int .i64 0) (.int .i64 0))
  have K98 := Lib.hid (show Blk w8 w4.heap.size 48 #[.int .i64 pr, .bool s6, .int .u64 sh, .int .u64 sl, .bool d6, .int .u64 dh, .int .u64 dl, .int .i64 0, .int .i64 0] from by rw [hw8]; exact tstore w7 w4.heap.size (.int .i64 pr) (.bool s6) (.int .u64 sh) (.int .u64 sl) (.bool d6) (.int .u64 dh) (.int .u64 dl) (.int .i64 0) (.int .i64 0) _ _ _ _ _ _ _ _ _ K97.out)
  have K48 := Lib.hid (OG8.out.blk K47.out NE2.out)
  have K78 := Lib.hid (OG8.out.blk K77.out NE1.out)
  have RW8 := Lib.hid (own_els RW7.out (by have := SZ5.out; omega) (toEls OG8.out))
  have B8 := Lib.hid (OG8.out.from B7.out (by have := B4.out.size; omega))
  have HFG := Lib.hid (show Calls Try.prog 25 #[.agg #[.int .i64 cls, .int .i64 lab, .int .i64 hop, .bool s6, .int .u64 sh, .int .u64 sl, .bool d6, .int .u64 dh, .int .u64 dl, .slice Ax nx cx, .int .i64 pr]] w8 fun o w' => o = .returned (.int .i64 fr) ∧ Below w8.heap.size w8 w' from by
    rw [hfr]
    exact frag_any ⟨cls, lab, hop, s6, sh, sl, d6, dh, dl, pr⟩ Ax nx cx Lx w8 hL (((hgx.below B67.out).els_ (by have := SZ5.out; omega) (toEls OG8.out)).rd hux) hn)
  clear hw7 hw8 hb6 hnr hrow m3 hL hn hgx hux hfr
  go_upto_region 15 with fail
  rw [← E7.out]
  have k0 := K77.out.cell 0
  have k1 := K77.out.cell 1
  have k2 := K77.out.cell 2
  have k3 := K77.out.cell 3
  have k4 := K77.out.cell 4
  have k5 := K77.out.cell 5
  have k6 := K77.out.cell 6
  have k7 := K77.out.cell 7
  have k8 := K77.out.cell 8
  have k9 := K77.out.cell 9
  have k10 := K77.out.cell 10
  have y0 := K97.out.cell 0
  have z0 := K97.out.frozen 0
  have y1 := K97.out.cell 1
  have z1 := K97.out.frozen 1
  have y2 := K97.out.cell 2
  have z2 := K97.out.frozen 2
  have y3 := K97.out.cell 3
  have z3 := K97.out.frozen 3
  have y4 := K97.out.cell 4
  have z4 := K97.out.frozen 4
  have y5 := K97.out.cell 5
  have z5 := K97.out.frozen 5
  have y6 := K97.out.cell 6
  have z6 := K97.out.frozen 6
  have y7 := K97.out.cell 7
  have z7 := K97.out.frozen 7
  have y8 := K97.out.cell 8
  have z8 := K97.out.frozen 8
  go_upto_region 16 with fail
  rw [← E8.out]
  clear k0 k1 k2 k3 k4 k5 k6 k7 k8 k9 k10
  clear y0 y1 y2 y3 y4 y5 y6 y7 y8 z0 z1 z2 z3 z4 z5 z6 z7 z8
  have k0 := K78.out.cell 0
  have k1 := K78.out.cell 1
  have k2 := K78.out.cell 2
  have k3 := K78.out.cell 3
  have k4 := K78.out.cell 4
  have k5 := K78.out.cell 5
  have k6 := K78.out.cell 6
  have k7 := K78.out.cell 7
  have k8 := K78.out.cell 8
  have k9 := K78.out.cell 9
  have k10 := K78.out.cell 10
  go_wp2_with fail
  refine HFG.out.mono ?_
  rintro o w9 ⟨rfl, hb9⟩
  have K99 := Lib.hid (K98.out.below hb9 K98.out.lt)
  have K49 := Lib.hid (K48.out.below hb9 K48.out.lt)
  have RW9 := Lib.hid (own_below2 RW8.out hb9)
  have B9 := Lib.hid (B8.out.trans (hb9.mono B8.out.size))
  have NE9 := Lib.hid hb9.size
  clear hb9 k0 k1 k2 k3 k4 k5 k6 k7 k8 k9 k10
  have te : (f == 0) = false := by simpa using he
  have tf : (f != 0) = true := by simpa using he
  have tt : (f == f) = true := by simp
  clear he
  have q0 := K49.out.cell 0
  have q1 := K49.out.cell 1
  have q2 := K49.out.cell 2
  have q3 := K49.out.cell 3
  have q4 := K49.out.cell 4
  have q5 := K49.out.cell 5
  have q6 := K49.out.cell 6
  have q7 := K49.out.cell 7
  have q8 := K49.out.cell 8
  go_wp2_with fail
  refine (Go.Proofs.Ytndekicblbpkjaa.icmpA.awake_any _).mono ?_
  rintro o w' ⟨rfl, rfl⟩
  go_wp2_with fail
  go_ret
  exact ⟨rfl, B9.out⟩
set_option maxHeartbeats 8000000 in
set_option maxRecDepth 100000 in
theorem law6_frag (ty co wd : Int) (A : Option Addr) (n0 n c : Nat) (f fr pr : Int) (s6 : Bool) (sh sl : Int) (d6 : Bool) (dh dl : Int) (r : List Int) (w : World) (ht : tellsB true ty = true) (he : f = 0) (hf : 0 < fr)
    (HC : Hid (∀ W, Calls Try.prog 21 #[.slice A n0 c] W fun o w' => o = .returned (.slice A n c) ∧ W = w'))
    (HQD : Hid (∀ V, Below w.heap.size w V → Calls Try.prog 22 #[.bool true, .agg #[.int .i64 ty, .int .i64 co, .int .u32 wd, .slice A n c]] V fun o w' => o = .returned (.tuple #[.agg #[.int .i64 0, .bool false, .int .u64 0, .int .u64 0, .bool false, .int .u64 0, .int .u64 0, .int .i64 0, .int .i64 0], .int .i64 21]) ∧ Below V.heap.size V w'))
    (HQ : Hid (∀ V, Below w.heap.size w V → Calls Try.prog 12 #[.slice A n c] V (Q6 f fr pr s6 sh sl d6 dh dl r V))) :
    Calls Try.prog 5 #[.bool true, .agg #[.int .i64 ty, .int .i64 co, .int .u32 wd, .slice A n0 c]] w fun o w' => o = .returned (.bool true) ∧ Below w.heap.size w w' := by
  obtain ⟨w1, hw1⟩ : ∃ w1, w1 = w.alloc (.cells #[.int .i64 ty, .int .i64 co, .int .u32 wd, .slice A n0 c] 46) := ⟨_, rfl⟩
  have E1 := Lib.hid hw1
  obtain ⟨g, hg⟩ : ∃ g, g = w.heap.size := ⟨_, rfl⟩
  have EG := Lib.hid hg
  have B1 := Lib.hid (show Below w.heap.size w w1 from by rw [hw1]; exact (Below.refl _ _).alloc (Nat.le_refl _) _)
  have K1 := Lib.hid (show Blk w1 g 46 #[.int .i64 ty, .int .i64 co, .int .u32 wd, .slice A n0 c] from by rw [hw1, hg]; exact Blk.new w _ _)
  obtain ⟨w2, hw2⟩ : ∃ w2, w2 = w1.setCell ⟨g, 3, none⟩ (.slice A n c) := ⟨_, rfl⟩
  have E2 := Lib.hid hw2
  have K2 := Lib.hid (show Blk w2 g 46 #[.int .i64 ty, .int .i64 co, .int .u32 wd, .slice A n c] from by rw [hw2]; exact K1.out.set_ 3 _)
  have B2 := Lib.hid (show Below w.heap.size w w2 from by
    rw [hw2]
    exact ((OnlyG.refl g w1).set 3 _).from B1.out (by rw [hg]; exact Nat.le_refl _))
  subst he
  have TE := Lib.hid (error_all true ty)
  have HTL := Lib.hid ht
  rw [ht] at TE
  clear hw1 hg hw2
  have m3 := K1.out.cell 3
  have z3 := K1.out.frozen 3
  go_enter Try.func5, Try.ntmps5
  go_upto_region 1 with fail
  rw [← E1.out, ← EG.out]
  go_wp2_with fail
  refine (HC.out _).mono ?_
  rintro o w' ⟨rfl, rfl⟩
  go_upto_region 2 with fail
  rw [← E2.out]
  clear m3 z3
  have m0 := K2.out.cell 0
  have m1 := K2.out.cell 1
  have m2 := K2.out.cell 2
  have m3 := K2.out.cell 3
  go_wp2_with fail
  refine (HQD.out _ B2.out).mono ?_
  rintro o w3 ⟨rfl, hb3⟩
  obtain ⟨w4, hw4⟩ : ∃ w4, w4 = w3.alloc (.cells #[.int .i64 0, .bool false, .int .u64 0, .int .u64 0, .bool false, .int .u64 0, .int .u64 0, .int .i64 0, .int .i64 0] 48) := ⟨_, rfl⟩
  have E4 := Lib.hid hw4
  have B34 := Lib.hid (show Below w3.heap.size w3 w4 from by rw [hw4]; exact (Below.refl _ _).alloc (Nat.le_refl _) _)
  have B24 := Lib.hid (hb3.trans (B34.out.mono hb3.size))
  have K4 := Lib.hid (show Blk w4 w3.heap.size 48 #[.int .i64 0, .bool false, .int .u64 0, .int .u64 0, .bool false, .int .u64 0, .int .u64 0, .int .i64 0, .int .i64 0] from by rw [hw4]; exact Blk.new w3 _ _)
  have K24 := Lib.hid (K2.out.below B24.out K2.out.lt)
  have B4 := Lib.hid (B2.out.trans (B24.out.mono B2.out.size))
  have SZ4 := Lib.hid (show w4.heap.size = w3.heap.size + 1 from by rw [hw4]; simp)
  have SZ3 := Lib.hid hb3.size
  clear hw4 hb3 m0 m1 m2 m3
  go_upto_region 3 with fail
  rw [← E4.out]
  have m0 := K24.out.cell 0
  go_upto_region 4 with fail
  go_cut [8] (fun v wx => v = .bool true ∧ wx = w4)
  case first =>
    have hh := HTL.out
    unfold tellsB at hh
    rw [if_pos rfl] at hh
    have hh := of_decide_eq_true hh
    have e1 : decide (1 ≤ ty) = true := decide_eq_true hh.1
    have e4 : decide (ty ≤ 4) = true := decide_eq_true hh.2
    clear hh
    go_wp2_with fail; go_meet; exact ⟨rfl, rfl⟩
  case rest =>
  obtain ⟨rfl, hwc⟩ := hcut
  have hwc := hwc.symm
  subst hwc
  clear m0
  go_wp2_with fail
  refine (TE.out _).mono ?_
  rintro o w' ⟨rfl, rfl⟩
  obtain ⟨w5, hw5⟩ : ∃ w5, w5 = w4.alloc (.cells #[.int .i64 0, .bool false, .int .u64 0, .int .u64 0, .bool false, .int .u64 0, .int .u64 0, .int .i64 0, .int .i64 0] 48) := ⟨_, rfl⟩
  have E5 := Lib.hid hw5
  have B45 := Lib.hid (show Below w4.heap.size w4 w5 from by rw [hw5]; exact (Below.refl _ _).alloc (Nat.le_refl _) _)
  have K95 := Lib.hid (show Blk w5 w4.heap.size 48 #[.int .i64 0, .bool false, .int .u64 0, .int .u64 0, .bool false, .int .u64 0, .int .u64 0, .int .i64 0, .int .i64 0] from by rw [hw5]; exact Blk.new w4 _ _)
  have SZ5 := Lib.hid (show w5.heap.size = w4.heap.size + 1 from by rw [hw5]; simp)
  have B5 := Lib.hid (B4.out.trans (B45.out.mono B4.out.size))
  have K25 := Lib.hid (K24.out.below B45.out K24.out.lt)
  have K45 := Lib.hid (K4.out.below B45.out K4.out.lt)
  clear hw5
  go_upto_region 10 with fail
  rw [← E5.out]
  have m3 := K25.out.cell 3
  go_wp2_with fail
  refine (HQ.out _ B5.out).mono ?_
  rintro o w6 ⟨hb6, cls, lab, hop, Lx, Ax, nx, cx, AR, nr, cr, rfl, hL, hn, hgx, hux, hfr, hnr, hrow⟩
  obtain ⟨w7, hw7⟩ : ∃ w7, w7 = w6.alloc (.cells #[.int .i64 cls, .int .i64 lab, .int .i64 hop, .bool s6, .int .u64 sh, .int .u64 sl, .bool d6, .int .u64 dh, .int .u64 dl, .slice Ax nx cx, .int .i64 pr] 29) := ⟨_, rfl⟩
  have E7 := Lib.hid hw7
  have B67 := Lib.hid (show Below w6.heap.size w6 w7 from by rw [hw7]; exact (Below.refl _ _).alloc (Nat.le_refl _) _)
  have B57 := Lib.hid (hb6.trans (B67.out.mono hb6.size))
  have K77 := Lib.hid (show Blk w7 w6.heap.size 29 #[.int .i64 cls, .int .i64 lab, .int .i64 hop, .bool s6, .int .u64 sh, .int .u64 sl, .bool d6, .int .u64 dh, .int .u64 dl, .slice Ax nx cx, .int .i64 pr] from by rw [hw7]; exact Blk.new w6 _ _)
  have K97 := Lib.hid (K95.out.below B57.out K95.out.lt)
  have K47 := Lib.hid (K45.out.below B57.out K45.out.lt)
  have B7 := Lib.hid (B5.out.trans (B57.out.mono B5.out.size))
  have NE1 := Lib.hid (show w6.heap.size ≠ w4.heap.size from by have := hb6.size; have := SZ5.out; omega)
  have NE2 := Lib.hid (show w3.heap.size ≠ w4.heap.size from by have := SZ4.out; omega)
  have HNR := Lib.hid hnr
  have RW7 := Lib.hid (own_below2 hrow B67.out)
  obtain ⟨w8, hw8⟩ : ∃ w8, w8 = (((((((((w7.setCell ⟨w4.heap.size, 0, none⟩ (.int .i64 pr)).setCell ⟨w4.heap.size, 1, none⟩ (.bool s6)).setCell ⟨w4.heap.size, 2, none⟩ (.int .u64 sh)).setCell ⟨w4.heap.size, 3, none⟩ (.int .u64 sl)).setCell ⟨w4.heap.size, 4, none⟩ (.bool d6)).setCell ⟨w4.heap.size, 5, none⟩ (.int .u64 dh)).setCell ⟨w4.heap.size, 6, none⟩ (.int .u64 dl)).setCell ⟨w4.heap.size, 7, none⟩ (.int .i64 0)).setCell ⟨w4.heap.size, 8, none⟩ (.int .i64 0)) := ⟨_, rfl⟩
  have E8 := Lib.hid hw8
  have OG8 := Lib.hid (show OnlyG w4.heap.size w7 w8 from by rw [hw8]; exact tonly w7 w4.heap.size (.int .i64 pr) (.bool s6) (.int .u64 sh) (.int .u64 sl) (.bool d6) (.int .u64 dh) (.int .u64 dl) (.int .i64 0) (.int .i64 0))
  have K98 := Lib.hid (show Blk w8 w4.heap.size 48 #[.int .i64 pr, .bool s6, .int .u64 sh, .int .u64 sl, .bool d6, .int .u64 dh, .int .u64 dl, .int .i64 0, .int .i64 0] from by rw [hw8]; exact tstore w7 w4.heap.size (.int .i64 pr) (.bool s6) (.int .u64 sh) (.int .u64 sl) (.bool d6) (.int .u64 dh) (.int .u64 dl) (.int .i64 0) (.int .i64 0) _ _ _ _ _ _ _ _ _ K97.out)
  have K48 := Lib.hid (OG8.out.blk K47.out NE2.out)
  have K78 := Lib.hid (OG8.out.blk K77.out NE1.out)
  have RW8 := Lib.hid (own_els RW7.out (by have := SZ5.out; omega) (toEls OG8.out))
  have B8 := Lib.hid (OG8.out.from B7.out (by have := B4.out.size; omega))
  have HFG := Lib.hid (show Calls Try.prog 25 #[.agg #[.int .i64 cls, .int .i64 lab, .int .i64 hop, .bool s6, .int .u64 sh, .int .u64 sl, .bool d6, .int .u64 dh, .int .u64 dl, .slice Ax nx cx, .int .i64 pr]] w8 fun o w' => o = .returned (.int .i64 fr) ∧ Below w8.heap.size w8 w' from by
    rw [hfr]
    exact frag_any ⟨cls, lab, hop, s6, sh, sl, d6, dh, dl, pr⟩ Ax nx cx Lx w8 hL (((hgx.below B67.out).els_ (by have := SZ5.out; omega) (toEls OG8.out)).rd hux) hn)
  clear hw7 hw8 hb6 hnr hrow m3 hL hn hgx hux hfr
  go_upto_region 15 with fail
  rw [← E7.out]
  have k0 := K77.out.cell 0
  have k1 := K77.out.cell 1
  have k2 := K77.out.cell 2
  have k3 := K77.out.cell 3
  have k4 := K77.out.cell 4
  have k5 := K77.out.cell 5
  have k6 := K77.out.cell 6
  have k7 := K77.out.cell 7
  have k8 := K77.out.cell 8
  have k9 := K77.out.cell 9
  have k10 := K77.out.cell 10
  have y0 := K97.out.cell 0
  have z0 := K97.out.frozen 0
  have y1 := K97.out.cell 1
  have z1 := K97.out.frozen 1
  have y2 := K97.out.cell 2
  have z2 := K97.out.frozen 2
  have y3 := K97.out.cell 3
  have z3 := K97.out.frozen 3
  have y4 := K97.out.cell 4
  have z4 := K97.out.frozen 4
  have y5 := K97.out.cell 5
  have z5 := K97.out.frozen 5
  have y6 := K97.out.cell 6
  have z6 := K97.out.frozen 6
  have y7 := K97.out.cell 7
  have z7 := K97.out.frozen 7
  have y8 := K97.out.cell 8
  have z8 := K97.out.frozen 8
  go_upto_region 16 with fail
  rw [← E8.out]
  clear k0 k1 k2 k3 k4 k5 k6 k7 k8 k9 k10
  clear y0 y1 y2 y3 y4 y5 y6 y7 y8 z0 z1 z2 z3 z4 z5 z6 z7 z8
  have k0 := K78.out.cell 0
  have k1 := K78.out.cell 1
  have k2 := K78.out.cell 2
  have k3 := K78.out.cell 3
  have k4 := K78.out.cell 4
  have k5 := K78.out.cell 5
  have k6 := K78.out.cell 6
  have k7 := K78.out.cell 7
  have k8 := K78.out.cell 8
  have k9 := K78.out.cell 9
  have k10 := K78.out.cell 10
  go_wp2_with fail
  refine HFG.out.mono ?_
  rintro o w9 ⟨rfl, hb9⟩
  have K99 := Lib.hid (K98.out.below hb9 K98.out.lt)
  have K49 := Lib.hid (K48.out.below hb9 K48.out.lt)
  have RW9 := Lib.hid (own_below2 RW8.out hb9)
  have B9 := Lib.hid (B8.out.trans (hb9.mono B8.out.size))
  have NE9 := Lib.hid hb9.size
  clear hb9 k0 k1 k2 k3 k4 k5 k6 k7 k8 k9 k10
  have tf : decide (0 < fr) = true := decide_eq_true hf
  clear hf
  have q0 := K49.out.cell 0
  have q1 := K49.out.cell 1
  have q2 := K49.out.cell 2
  have q3 := K49.out.cell 3
  have q4 := K49.out.cell 4
  have q5 := K49.out.cell 5
  have q6 := K49.out.cell 6
  have q7 := K49.out.cell 7
  have q8 := K49.out.cell 8
  go_wp2_with fail
  refine (Go.Proofs.Ytndekicblbpkjaa.icmpA.awake_any _).mono ?_
  rintro o w' ⟨rfl, rfl⟩
  go_wp2_with fail
  go_ret
  exact ⟨rfl, B9.out⟩
set_option maxHeartbeats 8000000 in
set_option maxRecDepth 100000 in
theorem law6_proto (ty co wd : Int) (A : Option Addr) (n0 n c : Nat) (f fr pr : Int) (s6 : Bool) (sh sl : Int) (d6 : Bool) (dh dl : Int) (r : List Int) (w : World) (ht : tellsB true ty = true) (he : f = 0) (hf : fr = 0) (hp : pr ≠ 6 ∧ pr ≠ 17)
    (HC : Hid (∀ W, Calls Try.prog 21 #[.slice A n0 c] W fun o w' => o = .returned (.slice A n c) ∧ W = w'))
    (HQD : Hid (∀ V, Below w.heap.size w V → Calls Try.prog 22 #[.bool true, .agg #[.int .i64 ty, .int .i64 co, .int .u32 wd, .slice A n c]] V fun o w' => o = .returned (.tuple #[.agg #[.int .i64 0, .bool false, .int .u64 0, .int .u64 0, .bool false, .int .u64 0, .int .u64 0, .int .i64 0, .int .i64 0], .int .i64 14]) ∧ Below V.heap.size V w'))
    (HQ : Hid (∀ V, Below w.heap.size w V → Calls Try.prog 12 #[.slice A n c] V (Q6 f fr pr s6 sh sl d6 dh dl r V))) :
    Calls Try.prog 5 #[.bool true, .agg #[.int .i64 ty, .int .i64 co, .int .u32 wd, .slice A n0 c]] w fun o w' => o = .returned (.bool true) ∧ Below w.heap.size w w' := by
  obtain ⟨w1, hw1⟩ : ∃ w1, w1 = w.alloc (.cells #[.int .i64 ty, .int .i64 co, .int .u32 wd, .slice A n0 c] 46) := ⟨_, rfl⟩
  have E1 := Lib.hid hw1
  obtain ⟨g, hg⟩ : ∃ g, g = w.heap.size := ⟨_, rfl⟩
  have EG := Lib.hid hg
  have B1 := Lib.hid (show Below w.heap.size w w1 from by rw [hw1]; exact (Below.refl _ _).alloc (Nat.le_refl _) _)
  have K1 := Lib.hid (show Blk w1 g 46 #[.int .i64 ty, .int .i64 co, .int .u32 wd, .slice A n0 c] from by rw [hw1, hg]; exact Blk.new w _ _)
  obtain ⟨w2, hw2⟩ : ∃ w2, w2 = w1.setCell ⟨g, 3, none⟩ (.slice A n c) := ⟨_, rfl⟩
  have E2 := Lib.hid hw2
  have K2 := Lib.hid (show Blk w2 g 46 #[.int .i64 ty, .int .i64 co, .int .u32 wd, .slice A n c] from by rw [hw2]; exact K1.out.set_ 3 _)
  have B2 := Lib.hid (show Below w.heap.size w w2 from by
    rw [hw2]
    exact ((OnlyG.refl g w1).set 3 _).from B1.out (by rw [hg]; exact Nat.le_refl _))
  subst he hf
  have TE := Lib.hid (error_all true ty)
  have HTL := Lib.hid ht
  rw [ht] at TE
  clear hw1 hg hw2
  have m3 := K1.out.cell 3
  have z3 := K1.out.frozen 3
  go_enter Try.func5, Try.ntmps5
  go_upto_region 1 with fail
  rw [← E1.out, ← EG.out]
  go_wp2_with fail
  refine (HC.out _).mono ?_
  rintro o w' ⟨rfl, rfl⟩
  go_upto_region 2 with fail
  rw [← E2.out]
  clear m3 z3
  have m0 := K2.out.cell 0
  have m1 := K2.out.cell 1
  have m2 := K2.out.cell 2
  have m3 := K2.out.cell 3
  go_wp2_with fail
  refine (HQD.out _ B2.out).mono ?_
  rintro o w3 ⟨rfl, hb3⟩
  obtain ⟨w4, hw4⟩ : ∃ w4, w4 = w3.alloc (.cells #[.int .i64 0, .bool false, .int .u64 0, .int .u64 0, .bool false, .int .u64 0, .int .u64 0, .int .i64 0, .int .i64 0] 48) := ⟨_, rfl⟩
  have E4 := Lib.hid hw4
  have B34 := Lib.hid (show Below w3.heap.size w3 w4 from by rw [hw4]; exact (Below.refl _ _).alloc (Nat.le_refl _) _)
  have B24 := Lib.hid (hb3.trans (B34.out.mono hb3.size))
  have K4 := Lib.hid (show Blk w4 w3.heap.size 48 #[.int .i64 0, .bool false, .int .u64 0, .int .u64 0, .bool false, .int .u64 0, .int .u64 0, .int .i64 0, .int .i64 0] from by rw [hw4]; exact Blk.new w3 _ _)
  have K24 := Lib.hid (K2.out.below B24.out K2.out.lt)
  have B4 := Lib.hid (B2.out.trans (B24.out.mono B2.out.size))
  have SZ4 := Lib.hid (show w4.heap.size = w3.heap.size + 1 from by rw [hw4]; simp)
  have SZ3 := Lib.hid hb3.size
  clear hw4 hb3 m0 m1 m2 m3
  go_upto_region 3 with fail
  rw [← E4.out]
  have m0 := K24.out.cell 0
  go_upto_region 4 with fail
  go_cut [8] (fun v wx => v = .bool true ∧ wx = w4)
  case first =>
    have hh := HTL.out
    unfold tellsB at hh
    rw [if_pos rfl] at hh
    have hh := of_decide_eq_true hh
    have e1 : decide (1 ≤ ty) = true := decide_eq_true hh.1
    have e4 : decide (ty ≤ 4) = true := decide_eq_true hh.2
    clear hh
    go_wp2_with fail; go_meet; exact ⟨rfl, rfl⟩
  case rest =>
  obtain ⟨rfl, hwc⟩ := hcut
  have hwc := hwc.symm
  subst hwc
  clear m0
  go_wp2_with fail
  refine (TE.out _).mono ?_
  rintro o w' ⟨rfl, rfl⟩
  obtain ⟨w5, hw5⟩ : ∃ w5, w5 = w4.alloc (.cells #[.int .i64 0, .bool false, .int .u64 0, .int .u64 0, .bool false, .int .u64 0, .int .u64 0, .int .i64 0, .int .i64 0] 48) := ⟨_, rfl⟩
  have E5 := Lib.hid hw5
  have B45 := Lib.hid (show Below w4.heap.size w4 w5 from by rw [hw5]; exact (Below.refl _ _).alloc (Nat.le_refl _) _)
  have K95 := Lib.hid (show Blk w5 w4.heap.size 48 #[.int .i64 0, .bool false, .int .u64 0, .int .u64 0, .bool false, .int .u64 0, .int .u64 0, .int .i64 0, .int .i64 0] from by rw [hw5]; exact Blk.new w4 _ _)
  have SZ5 := Lib.hid (show w5.heap.size = w4.heap.size + 1 from by rw [hw5]; simp)
  have B5 := Lib.hid (B4.out.trans (B45.out.mono B4.out.size))
  have K25 := Lib.hid (K24.out.below B45.out K24.out.lt)
  have K45 := Lib.hid (K4.out.below B45.out K4.out.lt)
  clear hw5
  go_upto_region 10 with fail
  rw [← E5.out]
  have m3 := K25.out.cell 3
  go_wp2_with fail
  refine (HQ.out _ B5.out).mono ?_
  rintro o w6 ⟨hb6, cls, lab, hop, Lx, Ax, nx, cx, AR, nr, cr, rfl, hL, hn, hgx, hux, hfr, hnr, hrow⟩
  obtain ⟨w7, hw7⟩ : ∃ w7, w7 = w6.alloc (.cells #[.int .i64 cls, .int .i64 lab, .int .i64 hop, .bool s6, .int .u64 sh, .int .u64 sl, .bool d6, .int .u64 dh, .int .u64 dl, .slice Ax nx cx, .int .i64 pr] 29) := ⟨_, rfl⟩
  have E7 := Lib.hid hw7
  have B67 := Lib.hid (show Below w6.heap.size w6 w7 from by rw [hw7]; exact (Below.refl _ _).alloc (Nat.le_refl _) _)
  have B57 := Lib.hid (hb6.trans (B67.out.mono hb6.size))
  have K77 := Lib.hid (show Blk w7 w6.heap.size 29 #[.int .i64 cls, .int .i64 lab, .int .i64 hop, .bool s6, .int .u64 sh, .int .u64 sl, .bool d6, .int .u64 dh, .int .u64 dl, .slice Ax nx cx, .int .i64 pr] from by rw [hw7]; exact Blk.new w6 _ _)
  have K97 := Lib.hid (K95.out.below B57.out K95.out.lt)
  have K47 := Lib.hid (K45.out.below B57.out K45.out.lt)
  have B7 := Lib.hid (B5.out.trans (B57.out.mono B5.out.size))
  have NE1 := Lib.hid (show w6.heap.size ≠ w4.heap.size from by have := hb6.size; have := SZ5.out; omega)
  have NE2 := Lib.hid (show w3.heap.size ≠ w4.heap.size from by have := SZ4.out; omega)
  have HNR := Lib.hid hnr
  have RW7 := Lib.hid (own_below2 hrow B67.out)
  obtain ⟨w8, hw8⟩ : ∃ w8, w8 = (((((((((w7.setCell ⟨w4.heap.size, 0, none⟩ (.int .i64 pr)).setCell ⟨w4.heap.size, 1, none⟩ (.bool s6)).setCell ⟨w4.heap.size, 2, none⟩ (.int .u64 sh)).setCell ⟨w4.heap.size, 3, none⟩ (.int .u64 sl)).setCell ⟨w4.heap.size, 4, none⟩ (.bool d6)).setCell ⟨w4.heap.size, 5, none⟩ (.int .u64 dh)).setCell ⟨w4.heap.size, 6, none⟩ (.int .u64 dl)).setCell ⟨w4.heap.size, 7, none⟩ (.int .i64 0)).setCell ⟨w4.heap.size, 8, none⟩ (.int .i64 0)) := ⟨_, rfl⟩
  have E8 := Lib.hid hw8
  have OG8 := Lib.hid (show OnlyG w4.heap.size w7 w8 from by rw [hw8]; exact tonly w7 w4.heap.size (.int .i64 pr) (.bool s6) (.int .u64 sh) (.int .u64 sl) (.bool d6) (.int .u64 dh) (.int .u64 dl) (.int .i64 0) (.int .i64 0))
  have K98 := Lib.hid (show Blk w8 w4.heap.size 48 #[.int .i64 pr, .bool s6, .int .u64 sh, .int .u64 sl, .bool d6, .int .u64 dh, .int .u64 dl, .int .i64 0, .int .i64 0] from by rw [hw8]; exact tstore w7 w4.heap.size (.int .i64 pr) (.bool s6) (.int .u64 sh) (.int .u64 sl) (.bool d6) (.int .u64 dh) (.int .u64 dl) (.int .i64 0) (.int .i64 0) _ _ _ _ _ _ _ _ _ K97.out)
  have K48 := Lib.hid (OG8.out.blk K47.out NE2.out)
  have K78 := Lib.hid (OG8.out.blk K77.out NE1.out)
  have RW8 := Lib.hid (own_els RW7.out (by have := SZ5.out; omega) (toEls OG8.out))
  have B8 := Lib.hid (OG8.out.from B7.out (by have := B4.out.size; omega))
  have HFG := Lib.hid (show Calls Try.prog 25 #[.agg #[.int .i64 cls, .int .i64 lab, .int .i64 hop, .bool s6, .int .u64 sh, .int .u64 sl, .bool d6, .int .u64 dh, .int .u64 dl, .slice Ax nx cx, .int .i64 pr]] w8 fun o w' => o = .returned (.int .i64 0) ∧ Below w8.heap.size w8 w' from by
    rw [hfr]
    exact frag_any ⟨cls, lab, hop, s6, sh, sl, d6, dh, dl, pr⟩ Ax nx cx Lx w8 hL (((hgx.below B67.out).els_ (by have := SZ5.out; omega) (toEls OG8.out)).rd hux) hn)
  clear hw7 hw8 hb6 hnr hrow m3 hL hn hgx hux hfr
  go_upto_region 15 with fail
  rw [← E7.out]
  have k0 := K77.out.cell 0
  have k1 := K77.out.cell 1
  have k2 := K77.out.cell 2
  have k3 := K77.out.cell 3
  have k4 := K77.out.cell 4
  have k5 := K77.out.cell 5
  have k6 := K77.out.cell 6
  have k7 := K77.out.cell 7
  have k8 := K77.out.cell 8
  have k9 := K77.out.cell 9
  have k10 := K77.out.cell 10
  have y0 := K97.out.cell 0
  have z0 := K97.out.frozen 0
  have y1 := K97.out.cell 1
  have z1 := K97.out.frozen 1
  have y2 := K97.out.cell 2
  have z2 := K97.out.frozen 2
  have y3 := K97.out.cell 3
  have z3 := K97.out.frozen 3
  have y4 := K97.out.cell 4
  have z4 := K97.out.frozen 4
  have y5 := K97.out.cell 5
  have z5 := K97.out.frozen 5
  have y6 := K97.out.cell 6
  have z6 := K97.out.frozen 6
  have y7 := K97.out.cell 7
  have z7 := K97.out.frozen 7
  have y8 := K97.out.cell 8
  have z8 := K97.out.frozen 8
  go_upto_region 16 with fail
  rw [← E8.out]
  clear k0 k1 k2 k3 k4 k5 k6 k7 k8 k9 k10
  clear y0 y1 y2 y3 y4 y5 y6 y7 y8 z0 z1 z2 z3 z4 z5 z6 z7 z8
  have k0 := K78.out.cell 0
  have k1 := K78.out.cell 1
  have k2 := K78.out.cell 2
  have k3 := K78.out.cell 3
  have k4 := K78.out.cell 4
  have k5 := K78.out.cell 5
  have k6 := K78.out.cell 6
  have k7 := K78.out.cell 7
  have k8 := K78.out.cell 8
  have k9 := K78.out.cell 9
  have k10 := K78.out.cell 10
  go_wp2_with fail
  refine HFG.out.mono ?_
  rintro o w9 ⟨rfl, hb9⟩
  have K99 := Lib.hid (K98.out.below hb9 K98.out.lt)
  have K49 := Lib.hid (K48.out.below hb9 K48.out.lt)
  have RW9 := Lib.hid (own_below2 RW8.out hb9)
  have B9 := Lib.hid (B8.out.trans (hb9.mono B8.out.size))
  have NE9 := Lib.hid hb9.size
  clear hb9 k0 k1 k2 k3 k4 k5 k6 k7 k8 k9 k10
  have p6 : (pr != 6) = true := by simpa using hp.1
  have p17 : (pr != 17) = true := by simpa using hp.2
  clear hp
  have q0 := K49.out.cell 0
  have q1 := K49.out.cell 1
  have q2 := K49.out.cell 2
  have q3 := K49.out.cell 3
  have q4 := K49.out.cell 4
  have q5 := K49.out.cell 5
  have q6 := K49.out.cell 6
  have q7 := K49.out.cell 7
  have q8 := K49.out.cell 8
  have p0 := K99.out.cell 0
  go_wp2_with fail
  refine (Go.Proofs.Ytndekicblbpkjaa.icmpA.awake_any _).mono ?_
  rintro o w' ⟨rfl, rfl⟩
  go_wp2_with fail
  go_ret
  exact ⟨rfl, B9.out⟩
set_option maxHeartbeats 8000000 in
set_option maxRecDepth 100000 in
theorem law6_short (ty co wd : Int) (A : Option Addr) (n0 n c : Nat) (f fr pr : Int) (s6 : Bool) (sh sl : Int) (d6 : Bool) (dh dl : Int) (r : List Int) (w : World) (ht : tellsB true ty = true) (he : f = 0) (hf : fr = 0) (hp : pr = 6 ∨ pr = 17) (hr : r.length < 4)
    (HC : Hid (∀ W, Calls Try.prog 21 #[.slice A n0 c] W fun o w' => o = .returned (.slice A n c) ∧ W = w'))
    (HQD : Hid (∀ V, Below w.heap.size w V → Calls Try.prog 22 #[.bool true, .agg #[.int .i64 ty, .int .i64 co, .int .u32 wd, .slice A n c]] V fun o w' => o = .returned (.tuple #[.agg #[.int .i64 0, .bool false, .int .u64 0, .int .u64 0, .bool false, .int .u64 0, .int .u64 0, .int .i64 0, .int .i64 0], .int .i64 2]) ∧ Below V.heap.size V w'))
    (HQ : Hid (∀ V, Below w.heap.size w V → Calls Try.prog 12 #[.slice A n c] V (Q6 f fr pr s6 sh sl d6 dh dl r V))) :
    Calls Try.prog 5 #[.bool true, .agg #[.int .i64 ty, .int .i64 co, .int .u32 wd, .slice A n0 c]] w fun o w' => o = .returned (.bool true) ∧ Below w.heap.size w w' := by
  obtain ⟨w1, hw1⟩ : ∃ w1, w1 = w.alloc (.cells #[.int .i64 ty, .int .i64 co, .int .u32 wd, .slice A n0 c] 46) := ⟨_, rfl⟩
  have E1 := Lib.hid hw1
  obtain ⟨g, hg⟩ : ∃ g, g = w.heap.size := ⟨_, rfl⟩
  have EG := Lib.hid hg
  have B1 := Lib.hid (show Below w.heap.size w w1 from by rw [hw1]; exact (Below.refl _ _).alloc (Nat.le_refl _) _)
  have K1 := Lib.hid (show Blk w1 g 46 #[.int .i64 ty, .int .i64 co, .int .u32 wd, .slice A n0 c] from by rw [hw1, hg]; exact Blk.new w _ _)
  obtain ⟨w2, hw2⟩ : ∃ w2, w2 = w1.setCell ⟨g, 3, none⟩ (.slice A n c) := ⟨_, rfl⟩
  have E2 := Lib.hid hw2
  have K2 := Lib.hid (show Blk w2 g 46 #[.int .i64 ty, .int .i64 co, .int .u32 wd, .slice A n c] from by rw [hw2]; exact K1.out.set_ 3 _)
  have B2 := Lib.hid (show Below w.heap.size w w2 from by
    rw [hw2]
    exact ((OnlyG.refl g w1).set 3 _).from B1.out (by rw [hg]; exact Nat.le_refl _))
  subst he hf
  have TE := Lib.hid (error_all true ty)
  have HTL := Lib.hid ht
  rw [ht] at TE
  clear hw1 hg hw2
  have m3 := K1.out.cell 3
  have z3 := K1.out.frozen 3
  go_enter Try.func5, Try.ntmps5
  go_upto_region 1 with fail
  rw [← E1.out, ← EG.out]
  go_wp2_with fail
  refine (HC.out _).mono ?_
  rintro o w' ⟨rfl, rfl⟩
  go_upto_region 2 with fail
  rw [← E2.out]
  clear m3 z3
  have m0 := K2.out.cell 0
  have m1 := K2.out.cell 1
  have m2 := K2.out.cell 2
  have m3 := K2.out.cell 3
  go_wp2_with fail
  refine (HQD.out _ B2.out).mono ?_
  rintro o w3 ⟨rfl, hb3⟩
  obtain ⟨w4, hw4⟩ : ∃ w4, w4 = w3.alloc (.cells #[.int .i64 0, .bool false, .int .u64 0, .int .u64 0, .bool false, .int .u64 0, .int .u64 0, .int .i64 0, .int .i64 0] 48) := ⟨_, rfl⟩
  have E4 := Lib.hid hw4
  have B34 := Lib.hid (show Below w3.heap.size w3 w4 from by rw [hw4]; exact (Below.refl _ _).alloc (Nat.le_refl _) _)
  have B24 := Lib.hid (hb3.trans (B34.out.mono hb3.size))
  have K4 := Lib.hid (show Blk w4 w3.heap.size 48 #[.int .i64 0, .bool false, .int .u64 0, .int .u64 0, .bool false, .int .u64 0, .int .u64 0, .int .i64 0, .int .i64 0] from by rw [hw4]; exact Blk.new w3 _ _)
  have K24 := Lib.hid (K2.out.below B24.out K2.out.lt)
  have B4 := Lib.hid (B2.out.trans (B24.out.mono B2.out.size))
  have SZ4 := Lib.hid (show w4.heap.size = w3.heap.size + 1 from by rw [hw4]; simp)
  have SZ3 := Lib.hid hb3.size
  clear hw4 hb3 m0 m1 m2 m3
  go_upto_region 3 with fail
  rw [← E4.out]
  have m0 := K24.out.cell 0
  go_upto_region 4 with fail
  go_cut [8] (fun v wx => v = .bool true ∧ wx = w4)
  case first =>
    have hh := HTL.out
    unfold tellsB at hh
    rw [if_pos rfl] at hh
    have hh := of_decide_eq_true hh
    have e1 : decide (1 ≤ ty) = true := decide_eq_true hh.1
    have e4 : decide (ty ≤ 4) = true := decide_eq_true hh.2
    clear hh
    go_wp2_with fail; go_meet; exact ⟨rfl, rfl⟩
  case rest =>
  obtain ⟨rfl, hwc⟩ := hcut
  have hwc := hwc.symm
  subst hwc
  clear m0
  go_wp2_with fail
  refine (TE.out _).mono ?_
  rintro o w' ⟨rfl, rfl⟩
  obtain ⟨w5, hw5⟩ : ∃ w5, w5 = w4.alloc (.cells #[.int .i64 0, .bool false, .int .u64 0, .int .u64 0, .bool false, .int .u64 0, .int .u64 0, .int .i64 0, .int .i64 0] 48) := ⟨_, rfl⟩
  have E5 := Lib.hid hw5
  have B45 := Lib.hid (show Below w4.heap.size w4 w5 from by rw [hw5]; exact (Below.refl _ _).alloc (Nat.le_refl _) _)
  have K95 := Lib.hid (show Blk w5 w4.heap.size 48 #[.int .i64 0, .bool false, .int .u64 0, .int .u64 0, .bool false, .int .u64 0, .int .u64 0, .int .i64 0, .int .i64 0] from by rw [hw5]; exact Blk.new w4 _ _)
  have SZ5 := Lib.hid (show w5.heap.size = w4.heap.size + 1 from by rw [hw5]; simp)
  have B5 := Lib.hid (B4.out.trans (B45.out.mono B4.out.size))
  have K25 := Lib.hid (K24.out.below B45.out K24.out.lt)
  have K45 := Lib.hid (K4.out.below B45.out K4.out.lt)
  clear hw5
  go_upto_region 10 with fail
  rw [← E5.out]
  have m3 := K25.out.cell 3
  go_wp2_with fail
  refine (HQ.out _ B5.out).mono ?_
  rintro o w6 ⟨hb6, cls, lab, hop, Lx, Ax, nx, cx, AR, nr, cr, rfl, hL, hn, hgx, hux, hfr, hnr, hrow⟩
  obtain ⟨w7, hw7⟩ : ∃ w7, w7 = w6.alloc (.cells #[.int .i64 cls, .int .i64 lab, .int .i64 hop, .bool s6, .int .u64 sh, .int .u64 sl, .bool d6, .int .u64 dh, .int .u64 dl, .slice Ax nx cx, .int .i64 pr] 29) := ⟨_, rfl⟩
  have E7 := Lib.hid hw7
  have B67 := Lib.hid (show Below w6.heap.size w6 w7 from by rw [hw7]; exact (Below.refl _ _).alloc (Nat.le_refl _) _)
  have B57 := Lib.hid (hb6.trans (B67.out.mono hb6.size))
  have K77 := Lib.hid (show Blk w7 w6.heap.size 29 #[.int .i64 cls, .int .i64 lab, .int .i64 hop, .bool s6, .int .u64 sh, .int .u64 sl, .bool d6, .int .u64 dh, .int .u64 dl, .slice Ax nx cx, .int .i64 pr] from by rw [hw7]; exact Blk.new w6 _ _)
  have K97 := Lib.hid (K95.out.below B57.out K95.out.lt)
  have K47 := Lib.hid (K45.out.below B57.out K45.out.lt)
  have B7 := Lib.hid (B5.out.trans (B57.out.mono B5.out.size))
  have NE1 := Lib.hid (show w6.heap.size ≠ w4.heap.size from by have := hb6.size; have := SZ5.out; omega)
  have NE2 := Lib.hid (show w3.heap.size ≠ w4.heap.size from by have := SZ4.out; omega)
  have HNR := Lib.hid hnr
  have RW7 := Lib.hid (own_below2 hrow B67.out)
  obtain ⟨w8, hw8⟩ : ∃ w8, w8 = (((((((((w7.setCell ⟨w4.heap.size, 0, none⟩ (.int .i64 pr)).setCell ⟨w4.heap.size, 1, none⟩ (.bool s6)).setCell ⟨w4.heap.size, 2, none⟩ (.int .u64 sh)).setCell ⟨w4.heap.size, 3, none⟩ (.int .u64 sl)).setCell ⟨w4.heap.size, 4, none⟩ (.bool d6)).setCell ⟨w4.heap.size, 5, none⟩ (.int .u64 dh)).setCell ⟨w4.heap.size, 6, none⟩ (.int .u64 dl)).setCell ⟨w4.heap.size, 7, none⟩ (.int .i64 0)).setCell ⟨w4.heap.size, 8, none⟩ (.int .i64 0)) := ⟨_, rfl⟩
  have E8 := Lib.hid hw8
  have OG8 := Lib.hid (show OnlyG w4.heap.size w7 w8 from by rw [hw8]; exact tonly w7 w4.heap.size (.int .i64 pr) (.bool s6) (.int .u64 sh) (.int .u64 sl) (.bool d6) (.int .u64 dh) (.int .u64 dl) (.int .i64 0) (.int .i64 0))
  have K98 := Lib.hid (show Blk w8 w4.heap.size 48 #[.int .i64 pr, .bool s6, .int .u64 sh, .int .u64 sl, .bool d6, .int .u64 dh, .int .u64 dl, .int .i64 0, .int .i64 0] from by rw [hw8]; exact tstore w7 w4.heap.size (.int .i64 pr) (.bool s6) (.int .u64 sh) (.int .u64 sl) (.bool d6) (.int .u64 dh) (.int .u64 dl) (.int .i64 0) (.int .i64 0) _ _ _ _ _ _ _ _ _ K97.out)
  have K48 := Lib.hid (OG8.out.blk K47.out NE2.out)
  have K78 := Lib.hid (OG8.out.blk K77.out NE1.out)
  have RW8 := Lib.hid (own_els RW7.out (by have := SZ5.out; omega) (toEls OG8.out))
  have B8 := Lib.hid (OG8.out.from B7.out (by have := B4.out.size; omega))
  have HFG := Lib.hid (show Calls Try.prog 25 #[.agg #[.int .i64 cls, .int .i64 lab, .int .i64 hop, .bool s6, .int .u64 sh, .int .u64 sl, .bool d6, .int .u64 dh, .int .u64 dl, .slice Ax nx cx, .int .i64 pr]] w8 fun o w' => o = .returned (.int .i64 0) ∧ Below w8.heap.size w8 w' from by
    rw [hfr]
    exact frag_any ⟨cls, lab, hop, s6, sh, sl, d6, dh, dl, pr⟩ Ax nx cx Lx w8 hL (((hgx.below B67.out).els_ (by have := SZ5.out; omega) (toEls OG8.out)).rd hux) hn)
  clear hw7 hw8 hb6 hnr hrow m3 hL hn hgx hux hfr
  go_upto_region 15 with fail
  rw [← E7.out]
  have k0 := K77.out.cell 0
  have k1 := K77.out.cell 1
  have k2 := K77.out.cell 2
  have k3 := K77.out.cell 3
  have k4 := K77.out.cell 4
  have k5 := K77.out.cell 5
  have k6 := K77.out.cell 6
  have k7 := K77.out.cell 7
  have k8 := K77.out.cell 8
  have k9 := K77.out.cell 9
  have k10 := K77.out.cell 10
  have y0 := K97.out.cell 0
  have z0 := K97.out.frozen 0
  have y1 := K97.out.cell 1
  have z1 := K97.out.frozen 1
  have y2 := K97.out.cell 2
  have z2 := K97.out.frozen 2
  have y3 := K97.out.cell 3
  have z3 := K97.out.frozen 3
  have y4 := K97.out.cell 4
  have z4 := K97.out.frozen 4
  have y5 := K97.out.cell 5
  have z5 := K97.out.frozen 5
  have y6 := K97.out.cell 6
  have z6 := K97.out.frozen 6
  have y7 := K97.out.cell 7
  have z7 := K97.out.frozen 7
  have y8 := K97.out.cell 8
  have z8 := K97.out.frozen 8
  go_upto_region 16 with fail
  rw [← E8.out]
  clear k0 k1 k2 k3 k4 k5 k6 k7 k8 k9 k10
  clear y0 y1 y2 y3 y4 y5 y6 y7 y8 z0 z1 z2 z3 z4 z5 z6 z7 z8
  have k0 := K78.out.cell 0
  have k1 := K78.out.cell 1
  have k2 := K78.out.cell 2
  have k3 := K78.out.cell 3
  have k4 := K78.out.cell 4
  have k5 := K78.out.cell 5
  have k6 := K78.out.cell 6
  have k7 := K78.out.cell 7
  have k8 := K78.out.cell 8
  have k9 := K78.out.cell 9
  have k10 := K78.out.cell 10
  go_wp2_with fail
  refine HFG.out.mono ?_
  rintro o w9 ⟨rfl, hb9⟩
  have K99 := Lib.hid (K98.out.below hb9 K98.out.lt)
  have K49 := Lib.hid (K48.out.below hb9 K48.out.lt)
  have RW9 := Lib.hid (own_below2 RW8.out hb9)
  have B9 := Lib.hid (B8.out.trans (hb9.mono B8.out.size))
  have NE9 := Lib.hid hb9.size
  clear hb9 k0 k1 k2 k3 k4 k5 k6 k7 k8 k9 k10
  have tn : decide ((nr : Int) < 4) = true := decide_eq_true (by have := HNR.out; omega)
  have tnn : decide (nr < 4) = true := decide_eq_true (by have := HNR.out; omega)
  have q0 := K49.out.cell 0
  have q1 := K49.out.cell 1
  have q2 := K49.out.cell 2
  have q3 := K49.out.cell 3
  have q4 := K49.out.cell 4
  have q5 := K49.out.cell 5
  have q6 := K49.out.cell 6
  have q7 := K49.out.cell 7
  have q8 := K49.out.cell 8
  have p0 := K99.out.cell 0
  rcases hp with rfl | rfl
  · go_wp2_with fail
    refine (Go.Proofs.Ytndekicblbpkjaa.icmpA.awake_any _).mono ?_
    rintro o w' ⟨rfl, rfl⟩
    go_wp2_with fail
    go_ret
    exact ⟨rfl, B9.out⟩
  · go_wp2_with fail
    refine (Go.Proofs.Ytndekicblbpkjaa.icmpA.awake_any _).mono ?_
    rintro o w' ⟨rfl, rfl⟩
    go_wp2_with fail
    go_ret
    exact ⟨rfl, B9.out⟩
set_option maxHeartbeats 8000000 in
set_option maxRecDepth 100000 in
theorem law6_good (ty co wd : Int) (A : Option Addr) (n0 n c : Nat) (f fr pr : Int) (s6 : Bool) (sh sl : Int) (d6 : Bool) (dh dl : Int) (r : List Int) (w : World) (ht : tellsB true ty = true) (he : f = 0) (hf : fr = 0) (hp : pr = 6 ∨ pr = 17) (hr : 4 ≤ r.length) (hr2 : r.length ≤ 1000) (hu : U8 r) (sp dp : Int) (hsp : sp = 256 * r.getD 0 0 + r.getD 1 0) (hdp : dp = 256 * r.getD 2 0 + r.getD 3 0)
    (HC : Hid (∀ W, Calls Try.prog 21 #[.slice A n0 c] W fun o w' => o = .returned (.slice A n c) ∧ W = w'))
    (HQD : Hid (∀ V, Below w.heap.size w V → Calls Try.prog 22 #[.bool true, .agg #[.int .i64 ty, .int .i64 co, .int .u32 wd, .slice A n c]] V fun o w' => o = .returned (.tuple #[.agg #[.int .i64 pr, .bool s6, .int .u64 sh, .int .u64 sl, .bool d6, .int .u64 dh, .int .u64 dl, .int .i64 sp, .int .i64 dp], .int .i64 0]) ∧ Below V.heap.size V w'))
    (HQ : Hid (∀ V, Below w.heap.size w V → Calls Try.prog 12 #[.slice A n c] V (Q6 f fr pr s6 sh sl d6 dh dl r V))) :
    Calls Try.prog 5 #[.bool true, .agg #[.int .i64 ty, .int .i64 co, .int .u32 wd, .slice A n0 c]] w fun o w' => o = .returned (.bool true) ∧ Below w.heap.size w w' := by
  obtain ⟨w1, hw1⟩ : ∃ w1, w1 = w.alloc (.cells #[.int .i64 ty, .int .i64 co, .int .u32 wd, .slice A n0 c] 46) := ⟨_, rfl⟩
  have E1 := Lib.hid hw1
  obtain ⟨g, hg⟩ : ∃ g, g = w.heap.size := ⟨_, rfl⟩
  have EG := Lib.hid hg
  have B1 := Lib.hid (show Below w.heap.size w w1 from by rw [hw1]; exact (Below.refl _ _).alloc (Nat.le_refl _) _)
  have K1 := Lib.hid (show Blk w1 g 46 #[.int .i64 ty, .int .i64 co, .int .u32 wd, .slice A n0 c] from by rw [hw1, hg]; exact Blk.new w _ _)
  obtain ⟨w2, hw2⟩ : ∃ w2, w2 = w1.setCell ⟨g, 3, none⟩ (.slice A n c) := ⟨_, rfl⟩
  have E2 := Lib.hid hw2
  have K2 := Lib.hid (show Blk w2 g 46 #[.int .i64 ty, .int .i64 co, .int .u32 wd, .slice A n c] from by rw [hw2]; exact K1.out.set_ 3 _)
  have B2 := Lib.hid (show Below w.heap.size w w2 from by
    rw [hw2]
    exact ((OnlyG.refl g w1).set 3 _).from B1.out (by rw [hg]; exact Nat.le_refl _))
  subst he hf
  have HSPX := Lib.hid hsp
  have HDPX := Lib.hid hdp
  clear hsp hdp
  have TE := Lib.hid (error_all true ty)
  have HTL := Lib.hid ht
  rw [ht] at TE
  clear hw1 hg hw2
  have m3 := K1.out.cell 3
  have z3 := K1.out.frozen 3
  go_enter Try.func5, Try.ntmps5
  go_upto_region 1 with fail
  rw [← E1.out, ← EG.out]
  go_wp2_with fail
  refine (HC.out _).mono ?_
  rintro o w' ⟨rfl, rfl⟩
  go_upto_region 2 with fail
  rw [← E2.out]
  clear m3 z3
  have m0 := K2.out.cell 0
  have m1 := K2.out.cell 1
  have m2 := K2.out.cell 2
  have m3 := K2.out.cell 3
  go_wp2_with fail
  refine (HQD.out _ B2.out).mono ?_
  rintro o w3 ⟨rfl, hb3⟩
  obtain ⟨w4, hw4⟩ : ∃ w4, w4 = w3.alloc (.cells #[.int .i64 pr, .bool s6, .int .u64 sh, .int .u64 sl, .bool d6, .int .u64 dh, .int .u64 dl, .int .i64 sp, .int .i64 dp] 48) := ⟨_, rfl⟩
  have E4 := Lib.hid hw4
  have B34 := Lib.hid (show Below w3.heap.size w3 w4 from by rw [hw4]; exact (Below.refl _ _).alloc (Nat.le_refl _) _)
  have B24 := Lib.hid (hb3.trans (B34.out.mono hb3.size))
  have K4 := Lib.hid (show Blk w4 w3.heap.size 48 #[.int .i64 pr, .bool s6, .int .u64 sh, .int .u64 sl, .bool d6, .int .u64 dh, .int .u64 dl, .int .i64 sp, .int .i64 dp] from by rw [hw4]; exact Blk.new w3 _ _)
  have K24 := Lib.hid (K2.out.below B24.out K2.out.lt)
  have B4 := Lib.hid (B2.out.trans (B24.out.mono B2.out.size))
  have SZ4 := Lib.hid (show w4.heap.size = w3.heap.size + 1 from by rw [hw4]; simp)
  have SZ3 := Lib.hid hb3.size
  clear hw4 hb3 m0 m1 m2 m3
  go_upto_region 3 with fail
  rw [← E4.out]
  have m0 := K24.out.cell 0
  go_upto_region 4 with fail
  go_cut [8] (fun v wx => v = .bool true ∧ wx = w4)
  case first =>
    have hh := HTL.out
    unfold tellsB at hh
    rw [if_pos rfl] at hh
    have hh := of_decide_eq_true hh
    have e1 : decide (1 ≤ ty) = true := decide_eq_true hh.1
    have e4 : decide (ty ≤ 4) = true := decide_eq_true hh.2
    clear hh
    go_wp2_with fail; go_meet; exact ⟨rfl, rfl⟩
  case rest =>
  obtain ⟨rfl, hwc⟩ := hcut
  have hwc := hwc.symm
  subst hwc
  clear m0
  go_wp2_with fail
  refine (TE.out _).mono ?_
  rintro o w' ⟨rfl, rfl⟩
  obtain ⟨w5, hw5⟩ : ∃ w5, w5 = w4.alloc (.cells #[.int .i64 0, .bool false, .int .u64 0, .int .u64 0, .bool false, .int .u64 0, .int .u64 0, .int .i64 0, .int .i64 0] 48) := ⟨_, rfl⟩
  have E5 := Lib.hid hw5
  have B45 := Lib.hid (show Below w4.heap.size w4 w5 from by rw [hw5]; exact (Below.refl _ _).alloc (Nat.le_refl _) _)
  have K95 := Lib.hid (show Blk w5 w4.heap.size 48 #[.int .i64 0, .bool false, .int .u64 0, .int .u64 0, .bool false, .int .u64 0, .int .u64 0, .int .i64 0, .int .i64 0] from by rw [hw5]; exact Blk.new w4 _ _)
  have SZ5 := Lib.hid (show w5.heap.size = w4.heap.size + 1 from by rw [hw5]; simp)
  have B5 := Lib.hid (B4.out.trans (B45.out.mono B4.out.size))
  have K25 := Lib.hid (K24.out.below B45.out K24.out.lt)
  have K45 := Lib.hid (K4.out.below B45.out K4.out.lt)
  clear hw5
  go_upto_region 10 with fail
  rw [← E5.out]
  have m3 := K25.out.cell 3
  go_wp2_with fail
  refine (HQ.out _ B5.out).mono ?_
  rintro o w6 ⟨hb6, cls, lab, hop, Lx, Ax, nx, cx, AR, nr, cr, rfl, hL, hn, hgx, hux, hfr, hnr, hrow⟩
  obtain ⟨w7, hw7⟩ : ∃ w7, w7 = w6.alloc (.cells #[.int .i64 cls, .int .i64 lab, .int .i64 hop, .bool s6, .int .u64 sh, .int .u64 sl, .bool d6, .int .u64 dh, .int .u64 dl, .slice Ax nx cx, .int .i64 pr] 29) := ⟨_, rfl⟩
  have E7 := Lib.hid hw7
  have B67 := Lib.hid (show Below w6.heap.size w6 w7 from by rw [hw7]; exact (Below.refl _ _).alloc (Nat.le_refl _) _)
  have B57 := Lib.hid (hb6.trans (B67.out.mono hb6.size))
  have K77 := Lib.hid (show Blk w7 w6.heap.size 29 #[.int .i64 cls, .int .i64 lab, .int .i64 hop, .bool s6, .int .u64 sh, .int .u64 sl, .bool d6, .int .u64 dh, .int .u64 dl, .slice Ax nx cx, .int .i64 pr] from by rw [hw7]; exact Blk.new w6 _ _)
  have K97 := Lib.hid (K95.out.below B57.out K95.out.lt)
  have K47 := Lib.hid (K45.out.below B57.out K45.out.lt)
  have B7 := Lib.hid (B5.out.trans (B57.out.mono B5.out.size))
  have NE1 := Lib.hid (show w6.heap.size ≠ w4.heap.size from by have := hb6.size; have := SZ5.out; omega)
  have NE2 := Lib.hid (show w3.heap.size ≠ w4.heap.size from by have := SZ4.out; omega)
  have HNR := Lib.hid hnr
  have RW7 := Lib.hid (own_below2 hrow B67.out)
  obtain ⟨w8, hw8⟩ : ∃ w8, w8 = (((((((((w7.setCell ⟨w4.heap.size, 0, none⟩ (.int .i64 pr)).setCell ⟨w4.heap.size, 1, none⟩ (.bool s6)).setCell ⟨w4.heap.size, 2, none⟩ (.int .u64 sh)).setCell ⟨w4.heap.size, 3, none⟩ (.int .u64 sl)).setCell ⟨w4.heap.size, 4, none⟩ (.bool d6)).setCell ⟨w4.heap.size, 5, none⟩ (.int .u64 dh)).setCell ⟨w4.heap.size, 6, none⟩ (.int .u64 dl)).setCell ⟨w4.heap.size, 7, none⟩ (.int .i64 0)).setCell ⟨w4.heap.size, 8, none⟩ (.int .i64 0)) := ⟨_, rfl⟩
  have E8 := Lib.hid hw8
  have OG8 := Lib.hid (show OnlyG w4.heap.size w7 w8 from by rw [hw8]; exact tonly w7 w4.heap.size (.int .i64 pr) (.bool s6) (.int .u64 sh) (.int .u64 sl) (.bool d6) (.int .u64 dh) (.int .u64 dl) (.int .i64 0) (.int .i64 0))
  have K98 := Lib.hid (show Blk w8 w4.heap.size 48 #[.int .i64 pr, .bool s6, .int .u64 sh, .int .u64 sl, .bool d6, .int .u64 dh, .int .u64 dl, .int .i64 0, .int .i64 0] from by rw [hw8]; exact tstore w7 w4.heap.size (.int .i64 pr) (.bool s6) (.int .u64 sh) (.int .u64 sl) (.bool d6) (.int .u64 dh) (.int .u64 dl) (.int .i64 0) (.int .i64 0) _ _ _ _ _ _ _ _ _ K97.out)
  have K48 := Lib.hid (OG8.out.blk K47.out NE2.out)
  have K78 := Lib.hid (OG8.out.blk K77.out NE1.out)
  have RW8 := Lib.hid (own_els RW7.out (by have := SZ5.out; omega) (toEls OG8.out))
  have B8 := Lib.hid (OG8.out.from B7.out (by have := B4.out.size; omega))
  have HFG := Lib.hid (show Calls Try.prog 25 #[.agg #[.int .i64 cls, .int .i64 lab, .int .i64 hop, .bool s6, .int .u64 sh, .int .u64 sl, .bool d6, .int .u64 dh, .int .u64 dl, .slice Ax nx cx, .int .i64 pr]] w8 fun o w' => o = .returned (.int .i64 0) ∧ Below w8.heap.size w8 w' from by
    rw [hfr]
    exact frag_any ⟨cls, lab, hop, s6, sh, sl, d6, dh, dl, pr⟩ Ax nx cx Lx w8 hL (((hgx.below B67.out).els_ (by have := SZ5.out; omega) (toEls OG8.out)).rd hux) hn)
  clear hw7 hw8 hb6 hnr hrow m3 hL hn hgx hux hfr
  go_upto_region 15 with fail
  rw [← E7.out]
  have k0 := K77.out.cell 0
  have k1 := K77.out.cell 1
  have k2 := K77.out.cell 2
  have k3 := K77.out.cell 3
  have k4 := K77.out.cell 4
  have k5 := K77.out.cell 5
  have k6 := K77.out.cell 6
  have k7 := K77.out.cell 7
  have k8 := K77.out.cell 8
  have k9 := K77.out.cell 9
  have k10 := K77.out.cell 10
  have y0 := K97.out.cell 0
  have z0 := K97.out.frozen 0
  have y1 := K97.out.cell 1
  have z1 := K97.out.frozen 1
  have y2 := K97.out.cell 2
  have z2 := K97.out.frozen 2
  have y3 := K97.out.cell 3
  have z3 := K97.out.frozen 3
  have y4 := K97.out.cell 4
  have z4 := K97.out.frozen 4
  have y5 := K97.out.cell 5
  have z5 := K97.out.frozen 5
  have y6 := K97.out.cell 6
  have z6 := K97.out.frozen 6
  have y7 := K97.out.cell 7
  have z7 := K97.out.frozen 7
  have y8 := K97.out.cell 8
  have z8 := K97.out.frozen 8
  go_upto_region 16 with fail
  rw [← E8.out]
  clear k0 k1 k2 k3 k4 k5 k6 k7 k8 k9 k10
  clear y0 y1 y2 y3 y4 y5 y6 y7 y8 z0 z1 z2 z3 z4 z5 z6 z7 z8
  have k0 := K78.out.cell 0
  have k1 := K78.out.cell 1
  have k2 := K78.out.cell 2
  have k3 := K78.out.cell 3
  have k4 := K78.out.cell 4
  have k5 := K78.out.cell 5
  have k6 := K78.out.cell 6
  have k7 := K78.out.cell 7
  have k8 := K78.out.cell 8
  have k9 := K78.out.cell 9
  have k10 := K78.out.cell 10
  go_wp2_with fail
  refine HFG.out.mono ?_
  rintro o w9 ⟨rfl, hb9⟩
  have K99 := Lib.hid (K98.out.below hb9 K98.out.lt)
  have K49 := Lib.hid (K48.out.below hb9 K48.out.lt)
  have RW9 := Lib.hid (own_below2 RW8.out hb9)
  have B9 := Lib.hid (B8.out.trans (hb9.mono B8.out.size))
  have NE9 := Lib.hid hb9.size
  clear hb9 k0 k1 k2 k3 k4 k5 k6 k7 k8 k9 k10
  have tn : decide ((nr : Int) < 4) = false := decide_eq_false (by have := HNR.out; omega)
  have tnn : decide (nr < 4) = false := decide_eq_false (by have := HNR.out; omega)
  have q0 := K49.out.cell 0
  have q1 := K49.out.cell 1
  have q2 := K49.out.cell 2
  have q3 := K49.out.cell 3
  have q4 := K49.out.cell 4
  have q5 := K49.out.cell 5
  have q6 := K49.out.cell 6
  have q7 := K49.out.cell 7
  have q8 := K49.out.cell 8
  have p0 := K99.out.cell 0
  clear q0 p0
  have hsp := HSPX.out
  have hdp := HDPX.out
  obtain ⟨x0, e0⟩ : ∃ x, x = r.getD 0 0 := ⟨_, rfl⟩
  obtain ⟨x1, e1⟩ : ∃ x, x = r.getD 1 0 := ⟨_, rfl⟩
  obtain ⟨x2, e2⟩ : ∃ x, x = r.getD 2 0 := ⟨_, rfl⟩
  obtain ⟨x3, e3⟩ : ∃ x, x = r.getD 3 0 := ⟨_, rfl⟩
  have u0 := hu.get 0; have u1 := hu.get 1; have u2 := hu.get 2; have u3 := hu.get 3
  rw [← e0] at u0 hsp
  rw [← e1] at u1 hsp
  rw [← e2] at u2 hdp
  rw [← e3] at u3 hdp
  obtain ⟨gr, crr, hvr, hgr, _, hncr, _, hcell, _⟩ := own_form RW9.out (by have := HNR.out; omega)
  injection hvr with h1 h2 h3
  subst h1 h3
  have NER := Lib.hid (show gr ≠ w4.heap.size from by have := SZ5.out; omega)
  have HG9 := Lib.hid (show w.heap.size ≤ w4.heap.size from B4.out.size)
  have n4 : 4 ≤ nr := by have := HNR.out; omega
  have HRC := Lib.hid (show ∀ W : World, (∀ i u, w9.cell? ⟨gr, i, none⟩ = some u → W.cell? ⟨gr, i, none⟩ = some u) → W.cell? ⟨gr, 0, none⟩ = some (.int .u8 x0) ∧ W.cell? ⟨gr, 1, none⟩ = some (.int .u8 x1) ∧ W.cell? ⟨gr, 2, none⟩ = some (.int .u8 x2) ∧ W.cell? ⟨gr, 3, none⟩ = some (.int .u8 x3) from fun W h => by
    have key : ∀ i, i < 4 → w9.cell? ⟨gr, i, none⟩ = some (.int .u8 (r.getD i 0)) := fun i hi => by
      rw [hcell i (by omega), List.getElem?_map, List.getD_eq_getElem?_getD, List.getElem?_eq_getElem (by have := HNR.out; omega)]
      rfl
    rw [e0, e1, e2, e3]
    exact ⟨h 0 _ (key 0 (by omega)), h 1 _ (key 1 (by omega)), h 2 _ (key 2 (by omega)), h 3 _ (key 3 (by omega))⟩)
  have c0 : IntKind.i64.wrap x0 = x0 := IntWalk.i64_in _ (by omega)
  have c1 : IntKind.i64.wrap x1 = x1 := IntWalk.i64_in _ (by omega)
  have c2 : IntKind.i64.wrap x2 = x2 := IntWalk.i64_in _ (by omega)
  have c3 : IntKind.i64.wrap x3 = x3 := IntWalk.i64_in _ (by omega)
  have c4 : IntKind.i64.wrap (256 * x0) = 256 * x0 := IntWalk.i64_in _ (by omega)
  have c5 : IntKind.i64.wrap (256 * x2) = 256 * x2 := IntWalk.i64_in _ (by omega)
  have c6 : IntKind.i64.wrap (256 * x0 + x1) = sp := by rw [IntWalk.i64_in _ (by omega), hsp]
  have c7 : IntKind.i64.wrap (256 * x2 + x3) = dp := by rw [IntWalk.i64_in _ (by omega), hdp]
  have j0 : 0 < nr := by omega
  have j1 : 1 < nr := by omega
  have j2 : 2 < nr := by omega
  have j3 : 3 < nr := by omega
  have i1 : (1 : Int) < nr := by omega
  have i2 : (2 : Int) < nr := by omega
  have i3 : (3 : Int) < nr := by omega
  clear e0 e1 e2 e3 hsp hdp hu u0 u1 u2 u3 hcell hgr hncr hr hr2 n4
  rcases hp with rfl | rfl
  · have q0 := K49.out.cell 0
    have p0 := K99.out.cell 0
    go_upto_region 34 with fail
    clear q0 q1 q2 q3 q4 q5 q6 q7 q8 p0
    have y7 := K99.out.cell 7
    have z7 := K99.out.frozen 7
    have HS := Lib.hid (HRC.out w9.drew (fun i u h => h))
    have OA := Lib.hid (show OnlyG w4.heap.size w9 (w9.setCell ⟨w4.heap.size, 7, none⟩ (.int .i64 sp)) from (OnlyG.refl _ _).set 7 _)
    have HSA := Lib.hid (HRC.out (w9.setCell ⟨w4.heap.size, 7, none⟩ (.int .i64 sp)).drew (fun i u h => by rw [← h]; exact only_cell OA.out (p := ⟨gr, i, none⟩) NER.out))
    go_region_held3 (fun W => W.cell? ⟨gr, 0, none⟩ = some (.int .u8 x0) ∧ W.cell? ⟨gr, 1, none⟩ = some (.int .u8 x1) ∧ W.cell? ⟨gr, 2, none⟩ = some (.int .u8 x2) ∧ W.cell? ⟨gr, 3, none⟩ = some (.int .u8 x3)) (first | with_reducible assumption | with_reducible exact HS.out | with_reducible exact HSA.out) (first | fail)
    obtain ⟨wA, hwA⟩ : ∃ wA, wA = (w9.setCell ⟨w4.heap.size, 7, none⟩ (.int .i64 sp)).drew := ⟨_, rfl⟩
    have EA := Lib.hid hwA
    have KA9 := Lib.hid (show Blk wA w4.heap.size 48 #[.int .i64 6, .bool s6, .int .u64 sh, .int .u64 sl, .bool d6, .int .u64 dh, .int .u64 dl, .int .i64 sp, .int .i64 0] from by
      rw [hwA]
      have h9 := K99.out.set_ 7 (.int .i64 sp)
      exact h9.below (Below.refl _ _).drew h9.lt)
    have KA4 := Lib.hid (show Blk wA w3.heap.size 48 #[.int .i64 6, .bool s6, .int .u64 sh, .int .u64 sl, .bool d6, .int .u64 dh, .int .u64 dl, .int .i64 sp, .int .i64 dp] from by
      rw [hwA]
      have h9 := OA.out.blk K49.out NE2.out
      exact h9.below (Below.refl _ _).drew h9.lt)
    have HRA := Lib.hid (show ∀ i u, w9.cell? ⟨gr, i, none⟩ = some u → wA.cell? ⟨gr, i, none⟩ = some u from fun i u h => by rw [hwA, ← h]; exact only_cell OA.out (p := ⟨gr, i, none⟩) NER.out)
    have BA_ := Lib.hid (show Below w.heap.size w wA from by rw [hwA]; exact (OA.out.from B9.out HG9.out).drew)
    rw [← EA.out]
    clear hwA y7 z7 HS HSA
    have y8 := KA9.out.cell 8
    have z8 := KA9.out.frozen 8
    have HS := Lib.hid (HRC.out wA.drew HRA.out)
    have OB := Lib.hid (show OnlyG w4.heap.size wA (wA.setCell ⟨w4.heap.size, 8, none⟩ (.int .i64 dp)) from (OnlyG.refl _ _).set 8 _)
    have HSB := Lib.hid (HRC.out (wA.setCell ⟨w4.heap.size, 8, none⟩ (.int .i64 dp)).drew (fun i u h => by rw [← HRA.out i u h]; exact only_cell OB.out (p := ⟨gr, i, none⟩) NER.out))
    go_upto_region 35 with fail
    go_region_held3 (fun W => W.cell? ⟨gr, 0, none⟩ = some (.int .u8 x0) ∧ W.cell? ⟨gr, 1, none⟩ = some (.int .u8 x1) ∧ W.cell? ⟨gr, 2, none⟩ = some (.int .u8 x2) ∧ W.cell? ⟨gr, 3, none⟩ = some (.int .u8 x3)) (first | with_reducible assumption | with_reducible exact HS.out | with_reducible exact HSB.out) (first | fail)
    obtain ⟨wB, hwB⟩ : ∃ wB, wB = (wA.setCell ⟨w4.heap.size, 8, none⟩ (.int .i64 dp)).drew := ⟨_, rfl⟩
    have EB := Lib.hid hwB
    have KB9 := Lib.hid (show Blk wB w4.heap.size 48 #[.int .i64 6, .bool s6, .int .u64 sh, .int .u64 sl, .bool d6, .int .u64 dh, .int .u64 dl, .int .i64 sp, .int .i64 dp] from by
      rw [hwB]
      have h9 := KA9.out.set_ 8 (.int .i64 dp)
      exact h9.below (Below.refl _ _).drew h9.lt)
    have KB4 := Lib.hid (show Blk wB w3.heap.size 48 #[.int .i64 6, .bool s6, .int .u64 sh, .int .u64 sl, .bool d6, .int .u64 dh, .int .u64 dl, .int .i64 sp, .int .i64 dp] from by
      rw [hwB]
      have h9 := OB.out.blk KA4.out NE2.out
      exact h9.below (Below.refl _ _).drew h9.lt)
    have BB_ := Lib.hid (show Below w.heap.size w wB from by rw [hwB]; exact (OB.out.from BA_.out HG9.out).drew)
    rw [← EB.out]
    clear hwB y8 z8 HS HSB
    have q0 := KB4.out.cell 0
    have p0 := KB9.out.cell 0
    have q1 := KB4.out.cell 1
    have p1 := KB9.out.cell 1
    have q2 := KB4.out.cell 2
    have p2 := KB9.out.cell 2
    have q3 := KB4.out.cell 3
    have p3 := KB9.out.cell 3
    have q4 := KB4.out.cell 4
    have p4 := KB9.out.cell 4
    have q5 := KB4.out.cell 5
    have p5 := KB9.out.cell 5
    have q6 := KB4.out.cell 6
    have p6 := KB9.out.cell 6
    have q7 := KB4.out.cell 7
    have p7 := KB9.out.cell 7
    have q8 := KB4.out.cell 8
    have p8 := KB9.out.cell 8
    go_wp2_with fail
    refine (Go.Proofs.Ytndekicblbpkjaa.icmpA.awake_any _).mono ?_
    rintro o w' ⟨rfl, rfl⟩
    go_wp2_with fail
    go_ret
    exact ⟨rfl, BB_.out⟩
  · have q0 := K49.out.cell 0
    have p0 := K99.out.cell 0
    go_upto_region 34 with fail
    clear q0 q1 q2 q3 q4 q5 q6 q7 q8 p0
    have y7 := K99.out.cell 7
    have z7 := K99.out.frozen 7
    have HS := Lib.hid (HRC.out w9.drew (fun i u h => h))
    have OA := Lib.hid (show OnlyG w4.heap.size w9 (w9.setCell ⟨w4.heap.size, 7, none⟩ (.int .i64 sp)) from (OnlyG.refl _ _).set 7 _)
    have HSA := Lib.hid (HRC.out (w9.setCell ⟨w4.heap.size, 7, none⟩ (.int .i64 sp)).drew (fun i u h => by rw [← h]; exact only_cell OA.out (p := ⟨gr, i, none⟩) NER.out))
    go_region_held3 (fun W => W.cell? ⟨gr, 0, none⟩ = some (.int .u8 x0) ∧ W.cell? ⟨gr, 1, none⟩ = some (.int .u8 x1) ∧ W.cell? ⟨gr, 2, none⟩ = some (.int .u8 x2) ∧ W.cell? ⟨gr, 3, none⟩ = some (.int .u8 x3)) (first | with_reducible assumption | with_reducible exact HS.out | with_reducible exact HSA.out) (first | fail)
    obtain ⟨wA, hwA⟩ : ∃ wA, wA = (w9.setCell ⟨w4.heap.size, 7, none⟩ (.int .i64 sp)).drew := ⟨_, rfl⟩
    have EA := Lib.hid hwA
    have KA9 := Lib.hid (show Blk wA w4.heap.size 48 #[.int .i64 17, .bool s6, .int .u64 sh, .int .u64 sl, .bool d6, .int .u64 dh, .int .u64 dl, .int .i64 sp, .int .i64 0] from by
      rw [hwA]
      have h9 := K99.out.set_ 7 (.int .i64 sp)
      exact h9.below (Below.refl _ _).drew h9.lt)
    have KA4 := Lib.hid (show Blk wA w3.heap.size 48 #[.int .i64 17, .bool s6, .int .u64 sh, .int .u64 sl, .bool d6, .int .u64 dh, .int .u64 dl, .int .i64 sp, .int .i64 dp] from by
      rw [hwA]
      have h9 := OA.out.blk K49.out NE2.out
      exact h9.below (Below.refl _ _).drew h9.lt)
    have HRA := Lib.hid (show ∀ i u, w9.cell? ⟨gr, i, none⟩ = some u → wA.cell? ⟨gr, i, none⟩ = some u from fun i u h => by rw [hwA, ← h]; exact only_cell OA.out (p := ⟨gr, i, none⟩) NER.out)
    have BA_ := Lib.hid (show Below w.heap.size w wA from by rw [hwA]; exact (OA.out.from B9.out HG9.out).drew)
    rw [← EA.out]
    clear hwA y7 z7 HS HSA
    have y8 := KA9.out.cell 8
    have z8 := KA9.out.frozen 8
    have HS := Lib.hid (HRC.out wA.drew HRA.out)
    have OB := Lib.hid (show OnlyG w4.heap.size wA (wA.setCell ⟨w4.heap.size, 8, none⟩ (.int .i64 dp)) from (OnlyG.refl _ _).set 8 _)
    have HSB := Lib.hid (HRC.out (wA.setCell ⟨w4.heap.size, 8, none⟩ (.int .i64 dp)).drew (fun i u h => by rw [← HRA.out i u h]; exact only_cell OB.out (p := ⟨gr, i, none⟩) NER.out))
    go_upto_region 35 with fail
    go_region_held3 (fun W => W.cell? ⟨gr, 0, none⟩ = some (.int .u8 x0) ∧ W.cell? ⟨gr, 1, none⟩ = some (.int .u8 x1) ∧ W.cell? ⟨gr, 2, none⟩ = some (.int .u8 x2) ∧ W.cell? ⟨gr, 3, none⟩ = some (.int .u8 x3)) (first | with_reducible assumption | with_reducible exact HS.out | with_reducible exact HSB.out) (first | fail)
    obtain ⟨wB, hwB⟩ : ∃ wB, wB = (wA.setCell ⟨w4.heap.size, 8, none⟩ (.int .i64 dp)).drew := ⟨_, rfl⟩
    have EB := Lib.hid hwB
    have KB9 := Lib.hid (show Blk wB w4.heap.size 48 #[.int .i64 17, .bool s6, .int .u64 sh, .int .u64 sl, .bool d6, .int .u64 dh, .int .u64 dl, .int .i64 sp, .int .i64 dp] from by
      rw [hwB]
      have h9 := KA9.out.set_ 8 (.int .i64 dp)
      exact h9.below (Below.refl _ _).drew h9.lt)
    have KB4 := Lib.hid (show Blk wB w3.heap.size 48 #[.int .i64 17, .bool s6, .int .u64 sh, .int .u64 sl, .bool d6, .int .u64 dh, .int .u64 dl, .int .i64 sp, .int .i64 dp] from by
      rw [hwB]
      have h9 := OB.out.blk KA4.out NE2.out
      exact h9.below (Below.refl _ _).drew h9.lt)
    have BB_ := Lib.hid (show Below w.heap.size w wB from by rw [hwB]; exact (OB.out.from BA_.out HG9.out).drew)
    rw [← EB.out]
    clear hwB y8 z8 HS HSB
    have q0 := KB4.out.cell 0
    have p0 := KB9.out.cell 0
    have q1 := KB4.out.cell 1
    have p1 := KB9.out.cell 1
    have q2 := KB4.out.cell 2
    have p2 := KB9.out.cell 2
    have q3 := KB4.out.cell 3
    have p3 := KB9.out.cell 3
    have q4 := KB4.out.cell 4
    have p4 := KB9.out.cell 4
    have q5 := KB4.out.cell 5
    have p5 := KB9.out.cell 5
    have q6 := KB4.out.cell 6
    have p6 := KB9.out.cell 6
    have q7 := KB4.out.cell 7
    have p7 := KB9.out.cell 7
    have q8 := KB4.out.cell 8
    have p8 := KB9.out.cell 8
    go_wp2_with fail
    refine (Go.Proofs.Ytndekicblbpkjaa.icmpA.awake_any _).mono ?_
    rintro o w' ⟨rfl, rfl⟩
    go_wp2_with fail
    go_ret
    exact ⟨rfl, BB_.out⟩
end Go.Proofs.Ytndekicblbpkjaa.icmpK
/- Layer 12: the law IcmpQuotes, all ways. -/
namespace Go.Proofs.Ytndekicblbpkjaa.icmpL
open Go.ChangeShapes Go.WideShapes Go.ChangeAt Go.RowKit
open Go.Proofs.Ytndekicblbpkjaa.base Go.Proofs.Ytndekicblbpkjaa.octA Go.Proofs.Ytndekicblbpkjaa.octB Go.Proofs.Ytndekicblbpkjaa.octC Go.Proofs.Ytndekicblbpkjaa.octF Go.Proofs.Ytndekicblbpkjaa.octK Go.Proofs.Ytndekicblbpkjaa.net Go.Proofs.Ytndekicblbpkjaa.rdrA Go.Proofs.Ytndekicblbpkjaa.rdrG Go.Proofs.Ytndekicblbpkjaa.sumA Go.Proofs.Ytndekicblbpkjaa.sumB Go.Proofs.Ytndekicblbpkjaa.udpA Go.Proofs.Ytndekicblbpkjaa.tcpC Go.Proofs.Ytndekicblbpkjaa.sixW Go.Proofs.Ytndekicblbpkjaa.sixM Go.Proofs.Ytndekicblbpkjaa.sixA Go.Proofs.Ytndekicblbpkjaa.sixB Go.Proofs.Ytndekicblbpkjaa.sixC Go.Proofs.Ytndekicblbpkjaa.sixD Go.Proofs.Ytndekicblbpkjaa.sixE Go.Proofs.Ytndekicblbpkjaa.sixF Go.Proofs.Ytndekicblbpkjaa.icmpA Go.Proofs.Ytndekicblbpkjaa.icmpH Go.Proofs.Ytndekicblbpkjaa.icmpI
set_option linter.unusedVariables false

theorem qboth (b off n c s : Nat) (l : List Int) (w : World) (hl' : l.length = n) (hn : 20 ≤ n) (hn2 : n ≤ 1000) (hnc : n ≤ c) (hc : c ≤ 9223372036854775807) (hb : b < w.heap.size) (hs : Lies w b off l) (hx : ∀ x ∈ l, 0 ≤ x ∧ x ≤ 255)
    (h1 : l.getD 0 0 / 16 = 4) (h2 : 20 ≤ s) (h3 : s ≤ n) (hsz : fourA.hl l = (s : Int)) :
    Calls Try.prog 26 #[.slice (some ⟨b, off, none⟩) n c] w (fourB.OkPost w l (l.drop s) s (n - s)) := by
  by_cases hcs : c = s
  · exact fourB.quote_near b off n c s l w hl' hn hn2 hnc hc hb hs hx h1 h2 h3 hsz hcs
  · exact fourB.quote_far b off n c s l w hl' hn hn2 hnc hc hb hs hx h1 h2 h3 hsz hcs
theorem qbegin_at (A : Option Addr) (n c : Nat) (k : Int) (hk : k ≠ 0) (w : World) (h : ∀ W, Below w.heap.size w W → Calls Try.prog 53 #[.slice A n c] W fun e w' => e = .returned (.tuple #[.int .i64 0, .int .i64 k]) ∧ W = w') :
    Calls Try.prog 26 #[.slice A n c] w fun e w' => e = .returned (fourB.err k) ∧ Below w.heap.size w w' := by
  have tk : (k != 0) = true := bneT hk
  have H := Lib.hid (h (w.alloc (.cells #[.int .i64 0, .int .i64 0, .bool false, .bool false, .int .i64 0, .int .i64 0, .int .i64 0, .bool false, .int .u64 0, .int .u64 0, .bool false, .int .u64 0, .int .u64 0, .slice none 0 0] 53)) ((Below.refl _ _).alloc (Nat.le_refl _) _))
  clear h hk
  go_enter Try.func26, Try.ntmps26
  go_wp2_with fail
  refine H.out.mono ?_
  rintro e w1 ⟨rfl, hw⟩
  subst hw
  go_wp2_with fail
  exact bodyPost_ret (v := fourB.err k) (by simp [results, Try.results26, go_sem, fourB.err]) rfl ⟨rfl, (Below.refl _ _).alloc (Nat.le_refl _) _⟩
theorem all4 (ty co wd : Int) (A : Option Addr) (n0 n c : Nat) (f fr pr : Int) (s6 : Bool) (sh sl : Int) (d6 : Bool) (dh dl : Int) (r : List Int) (w : World) (hfr : 0 ≤ fr) (hr2 : r.length ≤ 1000) (hu : U8 r)
    (HC : Hid (∀ W, Calls Try.prog 21 #[.slice A n0 c] W fun o w' => o = .returned (.slice A n c) ∧ W = w'))
    (HQ : Hid (∀ V, Below w.heap.size w V → Calls Try.prog 26 #[.slice A n c] V (Q4 f fr pr s6 sh sl d6 dh dl r V))) :
    Calls Try.prog 5 #[.bool false, .agg #[.int .i64 ty, .int .i64 co, .int .u32 wd, .slice A n0 c]] w fun o w' => o = .returned (.bool true) ∧ Below w.heap.size w w' := by
  cases ht : tellsB false ty with
  | false => exact icmpJ.law4_not ty co wd A n0 n c f fr pr s6 sh sl d6 dh dl r w ht HC (Lib.hid fun V hV => quoted4_not ty co wd A n c f fr pr s6 sh sl d6 dh dl r V ht)
  | true =>
    by_cases he : f = 0
    · by_cases hf : fr = 0
      · by_cases hp : pr = 6 ∨ pr = 17
        · by_cases hr : r.length < 4
          · exact icmpJ.law4_short ty co wd A n0 n c f fr pr s6 sh sl d6 dh dl r w ht he hf hp hr HC (Lib.hid fun V hV => quoted4_short ty co wd A n c f fr pr s6 sh sl d6 dh dl r V ht he hf hp hr (Lib.hid fun V2 hV2 => quote4_any (.slice A n c) f fr pr s6 sh sl d6 dh dl r V2 (Lib.hid fun V3 hV3 => HQ.out V3 ((hV.trans (hV2.mono hV.size)).trans (hV3.mono (Nat.le_trans hV.size hV2.size)))))) HQ
          · exact icmpJ.law4_good ty co wd A n0 n c f fr pr s6 sh sl d6 dh dl r w ht he hf hp (by omega) hr2 hu _ _ rfl rfl HC (Lib.hid fun V hV => quoted4_good ty co wd A n c f fr pr s6 sh sl d6 dh dl r V ht he hf hp (by omega) hr2 hu (Lib.hid fun V2 hV2 => quote4_any (.slice A n c) f fr pr s6 sh sl d6 dh dl r V2 (Lib.hid fun V3 hV3 => HQ.out V3 ((hV.trans (hV2.mono hV.size)).trans (hV3.mono (Nat.le_trans hV.size hV2.size)))))) HQ
        · have hp : pr ≠ 6 ∧ pr ≠ 17 := ⟨fun h => hp (.inl h), fun h => hp (.inr h)⟩
          exact icmpJ.law4_proto ty co wd A n0 n c f fr pr s6 sh sl d6 dh dl r w ht he hf hp HC (Lib.hid fun V hV => quoted4_proto ty co wd A n c f fr pr s6 sh sl d6 dh dl r V ht he hf hp (Lib.hid fun V2 hV2 => quote4_any (.slice A n c) f fr pr s6 sh sl d6 dh dl r V2 (Lib.hid fun V3 hV3 => HQ.out V3 ((hV.trans (hV2.mono hV.size)).trans (hV3.mono (Nat.le_trans hV.size hV2.size)))))) HQ
      · exact icmpJ.law4_frag ty co wd A n0 n c f fr pr s6 sh sl d6 dh dl r w ht he (by omega) HC (Lib.hid fun V hV => quoted4_frag ty co wd A n c f fr pr s6 sh sl d6 dh dl r V ht he hf (Lib.hid fun V2 hV2 => quote4_any (.slice A n c) f fr pr s6 sh sl d6 dh dl r V2 (Lib.hid fun V3 hV3 => HQ.out V3 ((hV.trans (hV2.mono hV.size)).trans (hV3.mono (Nat.le_trans hV.size hV2.size)))))) HQ
    · exact icmpJ.law4_err ty co wd A n0 n c f fr pr s6 sh sl d6 dh dl r w ht he HC (Lib.hid fun V hV => quoted4_err ty co wd A n c f fr pr s6 sh sl d6 dh dl r V ht he (Lib.hid fun V2 hV2 => quote4_any (.slice A n c) f fr pr s6 sh sl d6 dh dl r V2 (Lib.hid fun V3 hV3 => HQ.out V3 ((hV.trans (hV2.mono hV.size)).trans (hV3.mono (Nat.le_trans hV.size hV2.size)))))) HQ
theorem all6 (ty co wd : Int) (A : Option Addr) (n0 n c : Nat) (f fr pr : Int) (s6 : Bool) (sh sl : Int) (d6 : Bool) (dh dl : Int) (r : List Int) (w : World) (hfr : 0 ≤ fr) (hr2 : r.length ≤ 1000) (hu : U8 r)
    (HC : Hid (∀ W, Calls Try.prog 21 #[.slice A n0 c] W fun o w' => o = .returned (.slice A n c) ∧ W = w'))
    (HQ : Hid (∀ V, Below w.heap.size w V → Calls Try.prog 12 #[.slice A n c] V (Q6 f fr pr s6 sh sl d6 dh dl r V))) :
    Calls Try.prog 5 #[.bool true, .agg #[.int .i64 ty, .int .i64 co, .int .u32 wd, .slice A n0 c]] w fun o w' => o = .returned (.bool true) ∧ Below w.heap.size w w' := by
  cases ht : tellsB true ty with
  | false => exact icmpK.law6_not ty co wd A n0 n c f fr pr s6 sh sl d6 dh dl r w ht HC (Lib.hid fun V hV => quoted6_not ty co wd A n c f fr pr s6 sh sl d6 dh dl r V ht)
  | true =>
    by_cases he : f = 0
    · by_cases hf : fr = 0
      · by_cases hp : pr = 6 ∨ pr = 17
        · by_cases hr : r.length < 4
          · exact icmpK.law6_short ty co wd A n0 n c f fr pr s6 sh sl d6 dh dl r w ht he hf hp hr HC (Lib.hid fun V hV => quoted6_short ty co wd A n c f fr pr s6 sh sl d6 dh dl r V ht he hf hp hr (Lib.hid fun V2 hV2 => quote6_any (.slice A n c) f fr pr s6 sh sl d6 dh dl r V2 (Lib.hid fun V3 hV3 => HQ.out V3 ((hV.trans (hV2.mono hV.size)).trans (hV3.mono (Nat.le_trans hV.size hV2.size)))))) HQ
          · exact icmpK.law6_good ty co wd A n0 n c f fr pr s6 sh sl d6 dh dl r w ht he hf hp (by omega) hr2 hu _ _ rfl rfl HC (Lib.hid fun V hV => quoted6_good ty co wd A n c f fr pr s6 sh sl d6 dh dl r V ht he hf hp (by omega) hr2 hu (Lib.hid fun V2 hV2 => quote6_any (.slice A n c) f fr pr s6 sh sl d6 dh dl r V2 (Lib.hid fun V3 hV3 => HQ.out V3 ((hV.trans (hV2.mono hV.size)).trans (hV3.mono (Nat.le_trans hV.size hV2.size)))))) HQ
        · have hp : pr ≠ 6 ∧ pr ≠ 17 := ⟨fun h => hp (.inl h), fun h => hp (.inr h)⟩
          exact icmpK.law6_proto ty co wd A n0 n c f fr pr s6 sh sl d6 dh dl r w ht he hf hp HC (Lib.hid fun V hV => quoted6_proto ty co wd A n c f fr pr s6 sh sl d6 dh dl r V ht he hf hp (Lib.hid fun V2 hV2 => quote6_any (.slice A n c) f fr pr s6 sh sl d6 dh dl r V2 (Lib.hid fun V3 hV3 => HQ.out V3 ((hV.trans (hV2.mono hV.size)).trans (hV3.mono (Nat.le_trans hV.size hV2.size)))))) HQ
      · exact icmpK.law6_frag ty co wd A n0 n c f fr pr s6 sh sl d6 dh dl r w ht he (by omega) HC (Lib.hid fun V hV => quoted6_frag ty co wd A n c f fr pr s6 sh sl d6 dh dl r V ht he hf (Lib.hid fun V2 hV2 => quote6_any (.slice A n c) f fr pr s6 sh sl d6 dh dl r V2 (Lib.hid fun V3 hV3 => HQ.out V3 ((hV.trans (hV2.mono hV.size)).trans (hV3.mono (Nat.le_trans hV.size hV2.size)))))) HQ
    · exact icmpK.law6_err ty co wd A n0 n c f fr pr s6 sh sl d6 dh dl r w ht he HC (Lib.hid fun V hV => quoted6_err ty co wd A n c f fr pr s6 sh sl d6 dh dl r V ht he (Lib.hid fun V2 hV2 => quote6_any (.slice A n c) f fr pr s6 sh sl d6 dh dl r V2 (Lib.hid fun V3 hV3 => HQ.out V3 ((hV.trans (hV2.mono hV.size)).trans (hV3.mono (Nat.le_trans hV.size hV2.size)))))) HQ
theorem q6_fail {w : World} {e : Int} {l : List Int} {o : Ending} {w' : World} (h : HeadP w l (.inl e) o w') : Q6 e 0 0 false 0 0 false 0 0 [] w o w' := by
  obtain ⟨hb, h⟩ := h
  rcases h with ⟨e2, h1, h2⟩ | ⟨ys, q, r, h1, _⟩
  · injection h1 with h1
    subst h1
    exact ⟨hb, 0, 0, 0, [], none, 0, 0, none, 0, 0, h2, rfl, by omega, GotX.nil _ _, fun e he => (by cases he), rfl, rfl, World.ownsRow_nil _ _ _ _⟩
  · cases h1
theorem q6_good {w : World} {l : List Int} {ys : List XP} {q : Int} {r : List Int} {o : Ending} {w' : World} (hy : ys.length ≤ 8) (hu : ∀ x ∈ ys, U8 x.2) (h : HeadP w l (.inr (ys, q, r)) o w') :
    Q6 0 (lies ys / 8) q true (hdOf l q).sh (hdOf l q).sl true (hdOf l q).dh (hdOf l q).dl r w o w' := by
  obtain ⟨hb, h⟩ := h
  rcases h with ⟨e2, h1, h2⟩ | ⟨ys2, q2, r2, h1, L, A, c, v, h2, h3, h4, h5⟩
  · cases h1
  · injection h1 with h1
    injection h1 with h1 h1b
    injection h1b with h1b h1c
    subst h1 h1b h1c
    obtain ⟨B, d, rfl⟩ := own_slice h5
    exact ⟨hb, _, _, _, L, A, _, c, B, _, d, h2, by rw [← h3, List.length_map], by omega, h4, fun e he => hu e.re (by rw [← h3]; exact List.mem_map_of_mem he), by rw [h3], rfl, h5⟩
theorem q4_fail {w : World} {k : Int} {o : Ending} {w' : World} (h : o = .returned (fourB.err k) ∧ Below w.heap.size w w') : Q4 k 0 0 false 0 0 false 0 0 [] w o w' :=
  ⟨h.2, 0, 0, false, false, 0, none, 0, 0, none, 0, 0, h.1, rfl, World.ownsRow_nil _ _ _ _⟩
theorem q4_good {w : World} {l : List Int} {s n : Nat} {o : Ending} {w' : World} (hl : l.length = n) (hs : s ≤ n) (h : fourB.OkPost w l (l.drop s) s (n - s) o w') : Q4 0 (w16 l 6 % 8192) (l.getD 9 0) false 0 (w32 l 12) false 0 (w32 l 16) (l.drop s) w o w' := by
  obtain ⟨A, c, v, h1, h2, h3, h4, h5⟩ := h
  obtain ⟨B, d, rfl⟩ := own_slice h4
  exact ⟨h5, _, _, _, _, _, A, _, c, B, _, d, h1, by rw [List.length_drop, hl], h4⟩
theorem quotes_any (v : Bool) (ty co wd : Int) (A : Option Addr) (n0 n c : Nat) (l : List Int) (w : World) (hl : l.length = n) (hn : n ≤ 300) (hnc : n ≤ c) (hc : c ≤ 9223372036854775807) (hr : Row w w.heap.size A (l.map (.int .u8))) (hu : U8 l)
    (HC : Hid (∀ W, Calls Try.prog 21 #[.slice A n0 c] W fun o w' => o = .returned (.slice A n c) ∧ W = w')) :
    Calls Try.prog 5 #[.bool v, .agg #[.int .i64 ty, .int .i64 co, .int .u32 wd, .slice A n0 c]] w fun o w' => o = .returned (.bool true) ∧ Below w.heap.size w w' := by
  cases v with
  | true =>
    have F : ∀ e, (∀ V, Below w.heap.size w V → Calls Try.prog 12 #[.slice A n c] V (HeadP V l (.inl e))) → Calls Try.prog 5 #[.bool true, .agg #[.int .i64 ty, .int .i64 co, .int .u32 wd, .slice A n0 c]] w fun o w' => o = .returned (.bool true) ∧ Below w.heap.size w w' := fun e h =>
      all6 ty co wd A n0 n c e 0 0 false 0 0 false 0 0 [] w (by omega) (by simp) (fun x hx => by cases hx) HC (Lib.hid fun V hV => (h V hV).mono fun o w' h => q6_fail h)
    by_cases h40 : n < 40
    · refine F 2 fun V hV => ?_
      have h9 := quote_short A n c l V hl h40
      have e : sixQ l = .inl 2 := by unfold sixQ; rw [if_pos (by omega)]
      rw [e] at h9
      exact h9
    obtain ⟨b, off, rfl, hb, hs⟩ := lies_of hr (by omega)
    have hbW : ∀ W : World, Below w.heap.size w W → b < W.heap.size := fun W hW => Nat.lt_of_lt_of_le hb hW.size
    by_cases hv : l.getD 0 0 / 16 = 6
    · have e : sixQ l = ofC (chn 9 [] (l.getD 6 0) (l.drop 40)) := by unfold sixQ; rw [if_neg (by omega), if_neg (by omega)]
      have HH : ∀ V, Below w.heap.size w V → Calls Try.prog 12 #[.slice (some ⟨b, off, none⟩) n c] V (HeadP V l (ofC (chn 9 [] (l.getD 6 0) (l.drop 40)))) := fun V hV => by
        have h9 := quote_ok b off n c l V hl (by omega) (by omega) hnc hc (hbW V hV) (hs.below hV hb) hu hv
        rw [e] at h9
        exact h9
      rcases hC : chn 9 [] (l.getD 6 0) (l.drop 40) with _ | ⟨ys, q, r⟩
      · rw [hC] at HH
        exact F 11 HH
      · rw [hC] at HH
        obtain ⟨zs, h1, h2, h3, h4, h5, h6, h7, h8, h9, h10⟩ := chn_sound 9 [] _ _ (hu.drop 40) (hu.get 6) RightE.nil (fun x hx => by cases hx) hC
        have hli := (lies_in h8).1
        rw [List.length_drop] at h10
        exact all6 ty co wd _ n0 n c 0 (lies ys / 8) q true _ _ true _ _ r w (by omega) (by omega) h9 HC (Lib.hid fun V hV => (HH V hV).mono fun o w' h => q6_good h4.most h8 h)
    · refine F 10 fun V hV => ?_
      have h9 := quote_vers b off n c l V hl (by omega) (hbW V hV) (hs.below hV hb) hu hv
      have e : sixQ l = .inl 10 := by unfold sixQ; rw [if_neg (by omega), if_pos hv]
      rw [e] at h9
      exact h9
  | false =>
    have F : ∀ k, (∀ V, Below w.heap.size w V → Calls Try.prog 26 #[.slice A n c] V (fun o w' => o = .returned (fourB.err k) ∧ Below V.heap.size V w')) → Calls Try.prog 5 #[.bool false, .agg #[.int .i64 ty, .int .i64 co, .int .u32 wd, .slice A n0 c]] w fun o w' => o = .returned (.bool true) ∧ Below w.heap.size w w' := fun k h =>
      all4 ty co wd A n0 n c k 0 0 false 0 0 false 0 0 [] w (by omega) (by simp) (fun x hx => by cases hx) HC (Lib.hid fun V hV => (h V hV).mono fun o w' h => q4_fail h)
    by_cases h20 : n < 20
    · exact F 2 fun V _ => fourB.quote_begin A n c 2 (by omega) V (fun W => fourA.begin_short A n c W h20)
    obtain ⟨b, off, rfl, hb, hs⟩ := lies_of hr (by omega)
    have hbW : ∀ W : World, Below w.heap.size w W → b < W.heap.size := fun W hW => Nat.lt_of_lt_of_le hb hW.size
    have BG : ∀ k : Int, k ≠ 0 → (∀ W : World, b < W.heap.size → Lies W b off l → Calls Try.prog 53 #[.slice (some ⟨b, off, none⟩) n c] W fun e w' => e = .returned (.tuple #[.int .i64 0, .int .i64 k]) ∧ W = w') → Calls Try.prog 5 #[.bool false, .agg #[.int .i64 ty, .int .i64 co, .int .u32 wd, .slice (some ⟨b, off, none⟩) n0 c]] w fun o w' => o = .returned (.bool true) ∧ Below w.heap.size w w' :=
      fun k hk h => F k fun V hV => qbegin_at _ n c k hk V fun W hW => h W (Nat.lt_of_lt_of_le (hbW V hV) hW.size) ((hs.below hV hb).below hW (hbW V hV))
    have k0 := hu.get 0
    by_cases hv : l.getD 0 0 / 16 = 4
    · have hsN : 0 ≤ fourA.hl l := by unfold fourA.hl; omega
      obtain ⟨s, hsz⟩ := Int.eq_ofNat_of_zero_le hsN
      by_cases h1 : s < 20
      · exact BG 11 (by omega) fun W a b' => fourA.begin_no b off n c l W hl (by omega) a b' hu 11 (.inr (.inl ⟨hv, by omega, rfl⟩))
      by_cases h2 : n < s
      · exact BG 11 (by omega) fun W a b' => fourA.begin_no b off n c l W hl (by omega) a b' hu 11 (.inr (.inr ⟨hv, by omega, by omega, rfl⟩))
      have h6 := w16_in l hu 6
      exact all4 ty co wd _ n0 n c 0 (w16 l 6 % 8192) (l.getD 9 0) false 0 (w32 l 12) false 0 (w32 l 16) (l.drop s) w (by omega) (by rw [List.length_drop]; omega) (hu.drop s) HC
        (Lib.hid fun V hV => (qboth b off n c s l V hl (by omega) (by omega) hnc hc (hbW V hV) (hs.below hV hb) hu hv (by omega) (by omega) hsz).mono fun o w' h => q4_good hl (by omega) h)
    · exact BG 10 (by omega) fun W a b' => fourA.begin_no b off n c l W hl (by omega) a b' hu 10 (.inl ⟨hv, rfl⟩)
end Go.Proofs.Ytndekicblbpkjaa.icmpL
