/- Layer 9: the law SixPuts. -/
import Derived.Test.YtndekicblbpkjaaSixU
import Derived.Test.YtndekicblbpkjaaSixY
import Derived.Test.YtndekicblbpkjaaSixX
import Derived.Deep.RegionHeld3
import Derived.Deep.DeepCutAuto
namespace Go.Proofs.Ytndekicblbpkjaa.sixZ
open Go.ChangeShapes Go.WideShapes Go.ChangeAt Go.RowKit
open Go.Proofs.Ytndekicblbpkjaa.base Go.Proofs.Ytndekicblbpkjaa.octA Go.Proofs.Ytndekicblbpkjaa.octB Go.Proofs.Ytndekicblbpkjaa.octC Go.Proofs.Ytndekicblbpkjaa.octF Go.Proofs.Ytndekicblbpkjaa.octK Go.Proofs.Ytndekicblbpkjaa.net Go.Proofs.Ytndekicblbpkjaa.rdrA Go.Proofs.Ytndekicblbpkjaa.rdrG Go.Proofs.Ytndekicblbpkjaa.sumA Go.Proofs.Ytndekicblbpkjaa.sumB Go.Proofs.Ytndekicblbpkjaa.udpA Go.Proofs.Ytndekicblbpkjaa.tcpC Go.Proofs.Ytndekicblbpkjaa.sixW Go.Proofs.Ytndekicblbpkjaa.sixM Go.Proofs.Ytndekicblbpkjaa.snK Go.Proofs.Ytndekicblbpkjaa.sixA Go.Proofs.Ytndekicblbpkjaa.sixB Go.Proofs.Ytndekicblbpkjaa.sixC Go.Proofs.Ytndekicblbpkjaa.sixD Go.Proofs.Ytndekicblbpkjaa.sixE Go.Proofs.Ytndekicblbpkjaa.sixF Go.Proofs.Ytndekicblbpkjaa.sixG Go.Proofs.Ytndekicblbpkjaa.sixH Go.Proofs.Ytndekicblbpkjaa.sixI Go.Proofs.Ytndekicblbpkjaa.sixK Go.Proofs.Ytndekicblbpkjaa.sixL Go.Proofs.Ytndekicblbpkjaa.sixN Go.Proofs.Ytndekicblbpkjaa.sixO Go.Proofs.Ytndekicblbpkjaa.sixQ Go.Proofs.Ytndekicblbpkjaa.sixR Go.Proofs.Ytndekicblbpkjaa.sixS Go.Proofs.Ytndekicblbpkjaa.sixT Go.Proofs.Ytndekicblbpkjaa.sixU Go.Proofs.Ytndekicblbpkjaa.sixY
set_option linter.unusedVariables false

theorem goodP2 {w : World} {l : List Int} {ys : List XP} {q : Int} {r : List Int} {o : Ending} {w' : World} {cls lab hop : Int} {s6 : Bool} {sh sl : Int} {d6 : Bool} {dh dl p : Int} {n m : Nat} (hh : hdOf l q = ⟨cls, lab, hop, s6, sh, sl, d6, dh, dl, p⟩) (hn : ys.length = n) (hm : r.length = m) (h : GoodP w l ys q r o w') :
    Below w.heap.size w w' ∧ ∃ L A c B d, o = .returned (.tuple #[.agg #[.int .i64 cls, .int .i64 lab, .int .i64 hop, .bool s6, .int .u64 sh, .int .u64 sl, .bool d6, .int .u64 dh, .int .u64 dl, .slice A n c, .int .i64 p], .slice B m d, .int .i64 0]) ∧ L.map Xt.re = ys ∧ GotX w' w.heap.size (.slice A n c) L ∧ w'.ownsRow w.heap.size 5 1 (.slice B m d) m (r.map (.int .u8)) := by
  obtain ⟨h1, L, A, c, B, d, h2, h3, h4, h5⟩ := h
  rw [hh, hn, hm] at h2
  rw [hn] at h4
  rw [hm] at h5
  exact ⟨h1, L, A, c, B, d, h2, h3, h4, h5⟩
set_option maxHeartbeats 2000000 in
set_option maxRecDepth 100000 in
theorem bytes_no (cls lab hop : Int) (s6 : Bool) (sh sl : Int) (d6 : Bool) (dh dl p : Int) (A : Option Addr) (n c : Nat) (rv : Value) (w : World)
    (HR : Hid (∀ V, Below w.heap.size w V → Calls Try.prog 19 #[.agg #[.int .i64 cls, .int .i64 lab, .int .i64 hop, .bool s6, .int .u64 sh, .int .u64 sl, .bool d6, .int .u64 dh, .int .u64 dl, .slice A n c, .int .i64 p]] V fun o w' => o = .returned (.bool false) ∧ Below V.heap.size V w')) :
    Calls Try.prog 18 #[.agg #[.int .i64 cls, .int .i64 lab, .int .i64 hop, .bool s6, .int .u64 sh, .int .u64 sl, .bool d6, .int .u64 dh, .int .u64 dl, .slice A n c, .int .i64 p], rv] w fun o w' => o = .returned (.tuple #[.slice none 0 0, .int .i64 1]) ∧ Below w.heap.size w w' := by
  obtain ⟨w1, hw1⟩ : ∃ w1, w1 = w.alloc (.cells #[.int .i64 cls, .int .i64 lab, .int .i64 hop, .bool s6, .int .u64 sh, .int .u64 sl, .bool d6, .int .u64 dh, .int .u64 dl, .slice A n c, .int .i64 p] 29) := ⟨_, rfl⟩
  have E1 := Lib.hid hw1
  have BA := Lib.hid (show Below w.heap.size w w1 from by rw [hw1]; exact (Below.refl _ _).alloc (Nat.le_refl _) _)
  have KB := Lib.hid (show Blk w1 w.heap.size 29 #[.int .i64 cls, .int .i64 lab, .int .i64 hop, .bool s6, .int .u64 sh, .int .u64 sl, .bool d6, .int .u64 dh, .int .u64 dl, .slice A n c, .int .i64 p] from by rw [hw1]; exact Blk.new w _ _)
  clear hw1
  go_enter Try.func18, Try.ntmps18
  go_upto_region 1 with fail
  rw [← E1.out]
  have x0 := KB.out.cell 0
  have x1 := KB.out.cell 1
  have x2 := KB.out.cell 2
  have x3 := KB.out.cell 3
  have x4 := KB.out.cell 4
  have x5 := KB.out.cell 5
  have x6 := KB.out.cell 6
  have x7 := KB.out.cell 7
  have x8 := KB.out.cell 8
  have x9 := KB.out.cell 9
  have x10 := KB.out.cell 10
  go_wp2_with fail
  refine (HR.out _ BA.out).mono ?_
  rintro o w2 ⟨rfl, hb2⟩
  have B2 := Lib.hid (BA.out.trans (hb2.mono BA.out.size))
  clear hb2 x0 x1 x2 x3 x4 x5 x6 x7 x8 x9 x10
  go_wp2_with fail
  go_ret2
  exact ⟨rfl, B2.out⟩
set_option maxHeartbeats 8000000 in
set_option maxRecDepth 100000 in
theorem puts_no (v1 v2 : Value) (cls lab hop : Int) (s6 : Bool) (sh sl : Int) (d6 : Bool) (dh dl p : Int) (A : Option Addr) (n c : Nat) (A1 : Option Addr) (m c1 : Nat) (w : World)
    (HC1 : Hid (∀ W, Calls Try.prog 10 #[v1] W fun o w' => o = .returned (.slice A1 m c1) ∧ W = w'))
    (HR : Hid (∀ V, Below w.heap.size w V → Calls Try.prog 19 #[.agg #[.int .i64 cls, .int .i64 lab, .int .i64 hop, .bool s6, .int .u64 sh, .int .u64 sl, .bool d6, .int .u64 dh, .int .u64 dl, .slice A n c, .int .i64 p]] V fun o w' => o = .returned (.bool false) ∧ Below V.heap.size V w'))
    (HLR : Hid (∀ V, Below w.heap.size w V → Calls Try.prog 16 #[.agg #[.int .i64 cls, .int .i64 lab, .int .i64 hop, .bool s6, .int .u64 sh, .int .u64 sl, .bool d6, .int .u64 dh, .int .u64 dl, .slice A n c, .int .i64 p]] V fun o w' => o = .returned (.bool false) ∧ Below V.heap.size V w')) :
    Calls Try.prog 4 #[.agg #[.int .i64 cls, .int .i64 lab, .int .i64 hop, .bool s6, .int .u64 sh, .int .u64 sl, .bool d6, .int .u64 dh, .int .u64 dl, .slice A n c, .int .i64 p], v1, v2] w fun o w' => o = .returned (.bool true) ∧ Below w.heap.size w w' := by
  obtain ⟨w1, hw1⟩ : ∃ w1, w1 = w.alloc (.cells #[.int .i64 cls, .int .i64 lab, .int .i64 hop, .bool s6, .int .u64 sh, .int .u64 sl, .bool d6, .int .u64 dh, .int .u64 dl, .slice A n c, .int .i64 p] 29) := ⟨_, rfl⟩
  have E1 := Lib.hid hw1
  have BA := Lib.hid (show Below w.heap.size w w1 from by rw [hw1]; exact (Below.refl _ _).alloc (Nat.le_refl _) _)
  have KB := Lib.hid (show Blk w1 w.heap.size 29 #[.int .i64 cls, .int .i64 lab, .int .i64 hop, .bool s6, .int .u64 sh, .int .u64 sl, .bool d6, .int .u64 dh, .int .u64 dl, .slice A n c, .int .i64 p] from by rw [hw1]; exact Blk.new w _ _)
  obtain ⟨g, hg⟩ : ∃ g, g = w.heap.size := ⟨_, rfl⟩
  have EG := Lib.hid hg
  have SZ1 := Lib.hid (show w1.heap.size = g + 1 from by rw [hw1, hg]; simp)
  have HSV := Lib.hid (show ∀ V, Below w1.heap.size w1 V → (V.cell? ⟨g, 0, none⟩ = some (.int .i64 cls) ∧ V.cell? ⟨g, 1, none⟩ = some (.int .i64 lab) ∧ V.cell? ⟨g, 2, none⟩ = some (.int .i64 hop) ∧ V.cell? ⟨g, 3, none⟩ = some (.bool s6) ∧ V.cell? ⟨g, 4, none⟩ = some (.int .u64 sh) ∧ V.cell? ⟨g, 5, none⟩ = some (.int .u64 sl) ∧ V.cell? ⟨g, 6, none⟩ = some (.bool d6) ∧ V.cell? ⟨g, 7, none⟩ = some (.int .u64 dh) ∧ V.cell? ⟨g, 8, none⟩ = some (.int .u64 dl) ∧ V.cell? ⟨g, 9, none⟩ = some (.slice A n c) ∧ V.cell? ⟨g, 10, none⟩ = some (.int .i64 p)) from fun V hV => by
    have K := KB.out.below hV KB.out.lt
    rw [← hg] at K
    exact ⟨K.cell 0, K.cell 1, K.cell 2, K.cell 3, K.cell 4, K.cell 5, K.cell 6, K.cell 7, K.cell 8, K.cell 9, K.cell 10⟩)
  clear hw1 hg
  go_enter Try.func4, Try.ntmps4
  go_upto_region 1 with fail
  rw [← E1.out, ← EG.out]
  go_wp2_with fail
  refine (HC1.out _).mono ?_
  rintro o w' ⟨rfl, rfl⟩
  obtain ⟨x0, x1, x2, x3, x4, x5, x6, x7, x8, x9, x10⟩ := HSV.out w1 (Below.refl _ _)
  go_wp2_with fail
  refine (bytes_no cls lab hop s6 sh sl d6 dh dl p A n c _ w1 (Lib.hid fun V hV => HR.out V (BA.out.trans (hV.mono BA.out.size)))).mono ?_
  rintro o w2 ⟨rfl, hb2⟩
  have B2 := Lib.hid hb2
  clear hb2 x0 x1 x2 x3 x4 x5 x6 x7 x8 x9 x10
  have D2 := Lib.hid (HSV.out w2.drew B2.out.drew)
  go_upto_region 3 with fail
  go_region_held3 (fun V => V.cell? ⟨g, 0, none⟩ = some (.int .i64 cls) ∧ V.cell? ⟨g, 1, none⟩ = some (.int .i64 lab) ∧ V.cell? ⟨g, 2, none⟩ = some (.int .i64 hop) ∧ V.cell? ⟨g, 3, none⟩ = some (.bool s6) ∧ V.cell? ⟨g, 4, none⟩ = some (.int .u64 sh) ∧ V.cell? ⟨g, 5, none⟩ = some (.int .u64 sl) ∧ V.cell? ⟨g, 6, none⟩ = some (.bool d6) ∧ V.cell? ⟨g, 7, none⟩ = some (.int .u64 dh) ∧ V.cell? ⟨g, 8, none⟩ = some (.int .u64 dl) ∧ V.cell? ⟨g, 9, none⟩ = some (.slice A n c) ∧ V.cell? ⟨g, 10, none⟩ = some (.int .i64 p)) (first | with_reducible assumption | with_reducible exact D4.out | with_reducible exact D3.out | with_reducible exact D2.out) (first
    | (go_at_call 19; with_reducible refine (HR.out _ (BA.out.trans (B2.out.drew.mono BA.out.size))).mono ?_; rintro o w3 ⟨rfl, hb3⟩; have B3 := Lib.hid (B2.out.drew.trans (hb3.mono B2.out.drew.size)); have D3 := Lib.hid (HSV.out w3 B3.out); clear hb3)
    | (go_at_call 16; with_reducible refine (HLR.out _ (BA.out.trans (B3.out.mono BA.out.size))).mono ?_; rintro o w4 ⟨rfl, hb4⟩; have B4 := Lib.hid (B3.out.trans (hb4.mono B3.out.size)); have D4 := Lib.hid (HSV.out w4 B4.out); clear hb4))
  clear D2 D3
  obtain ⟨x0, x1, x2, x3, x4, x5, x6, x7, x8, x9, x10⟩ := D4.out
  go_wp2_with fail
  refine (HLR.out _ (BA.out.trans (B4.out.mono BA.out.size))).mono ?_
  rintro o w5 ⟨rfl, hb5⟩
  have B5 := Lib.hid (B4.out.trans (hb5.mono B4.out.size))
  clear hb5 x0 x1 x2 x3 x4 x5 x6 x7 x8 x9 x10 D4
  go_wp2_with fail
  refine (awake_any _).mono ?_
  rintro o w6 ⟨rfl, hb6⟩
  have B6 := Lib.hid (B5.out.trans (hb6.mono B5.out.size))
  clear hb6
  go_wp2_with fail
  go_ret
  exact ⟨rfl, BA.out.trans (B6.out.mono BA.out.size)⟩
set_option maxHeartbeats 8000000 in
set_option maxRecDepth 100000 in
theorem puts_yes (v1 v2 : Value) (cls lab hop : Int) (s6 : Bool) (sh sl : Int) (d6 : Bool) (dh dl p : Int) (A : Option Addr) (n c : Nat) (A1 : Option Addr) (m c1 : Nat) (w : World)
    (l : List Xt) (X : List XP) (A2 : Option Addr) (m2 c2 : Nat) (r t : List Int) (SB : List Int) (hre : l.map Xt.re = X) (hl : l.length = n) (hrd : RdX w A l) (hsb : SB = sixB ⟨cls, lab, hop, s6, sh, sl, d6, dh, dl, p⟩ X r) (hln : SB.length = 40 + extL X + m) (hxl : extL X ≤ 16384) (hm : m ≤ 500) (hm2 : m2 ≤ 500) (hrl : r.length = m) (htl : t.length = m2) (hn8 : n ≤ 8)
    (hrow : Row w w.heap.size A1 (r.map (.int .u8))) (hrow2 : Row w w.heap.size A2 (t.map (.int .u8))) (hu : U8 r) (hut : U8 t) (hUX : ∀ x ∈ X, U8 x.2) (hz2 : A2 = none → c2 = 0) (hRH : RightH ⟨cls, lab, hop, s6, sh, sl, d6, dh, dl, p⟩ X) (huS : U8 SB)
    (hp1 : sixP (SB ++ t) = .inr (X, p, r)) (hp2 : hdOf (SB ++ t) p = ⟨cls, lab, hop, s6, sh, sl, d6, dh, dl, p⟩) (hp3 : sixQ SB = .inr (X, p, r)) (hp4 : hdOf SB p = ⟨cls, lab, hop, s6, sh, sl, d6, dh, dl, p⟩) (hp5 : SB.getD 0 0 / 16 = 6) (hp6 : (SB ++ t).getD 0 0 / 16 = 6)
    (HC2 : Hid (∀ W, Calls Try.prog 10 #[v2] W fun o w' => o = .returned (.slice A2 m2 c2) ∧ W = w'))
    (HBY : Hid (∀ V, Below w.heap.size w V → Calls Try.prog 18 #[.agg #[.int .i64 cls, .int .i64 lab, .int .i64 hop, .bool s6, .int .u64 sh, .int .u64 sl, .bool d6, .int .u64 dh, .int .u64 dl, .slice A n c, .int .i64 p], .slice A1 m c1] V fun o w' => ∃ v, o = .returned (.tuple #[v, .int .i64 0]) ∧ w'.ownsRow V.heap.size 5 1 v (40 + extL X + m) (SB.map (.int .u8)) ∧ Below V.heap.size V w'))
    (HLB : Hid (∀ V, Below w.heap.size w V → Calls Try.prog 17 #[.agg #[.int .i64 cls, .int .i64 lab, .int .i64 hop, .bool s6, .int .u64 sh, .int .u64 sl, .bool d6, .int .u64 dh, .int .u64 dl, .slice A n c, .int .i64 p], .slice A1 m c1] V fun o w' => ∃ v, o = .returned v ∧ w'.ownsRow V.heap.size 5 1 v (40 + extL X + m) (SB.map (.int .u8)) ∧ Below V.heap.size V w'))
    (HLE : Hid (∀ V, Below w.heap.size w V → Calls Try.prog 20 #[.agg #[.int .i64 cls, .int .i64 lab, .int .i64 hop, .bool s6, .int .u64 sh, .int .u64 sl, .bool d6, .int .u64 dh, .int .u64 dl, .slice A n c, .int .i64 p]] V fun o w' => o = .returned (.int .i64 (40 + extL X : Nat)) ∧ Below V.heap.size V w'))
    (HC1 : Hid (∀ W, Calls Try.prog 10 #[v1] W fun o w' => o = .returned (.slice A1 m c1) ∧ W = w'))
    (HR : Hid (∀ V, Below w.heap.size w V → Calls Try.prog 19 #[.agg #[.int .i64 cls, .int .i64 lab, .int .i64 hop, .bool s6, .int .u64 sh, .int .u64 sl, .bool d6, .int .u64 dh, .int .u64 dl, .slice A n c, .int .i64 p]] V fun o w' => o = .returned (.bool true) ∧ Below V.heap.size V w'))
    (HLR : Hid (∀ V, Below w.heap.size w V → Calls Try.prog 16 #[.agg #[.int .i64 cls, .int .i64 lab, .int .i64 hop, .bool s6, .int .u64 sh, .int .u64 sl, .bool d6, .int .u64 dh, .int .u64 dl, .slice A n c, .int .i64 p]] V fun o w' => o = .returned (.bool true) ∧ Below V.heap.size V w')) :
    Calls Try.prog 4 #[.agg #[.int .i64 cls, .int .i64 lab, .int .i64 hop, .bool s6, .int .u64 sh, .int .u64 sl, .bool d6, .int .u64 dh, .int .u64 dl, .slice A n c, .int .i64 p], v1, v2] w fun o w' => o = .returned (.bool true) ∧ Below w.heap.size w w' := by
  obtain ⟨w1, hw1⟩ : ∃ w1, w1 = w.alloc (.cells #[.int .i64 cls, .int .i64 lab, .int .i64 hop, .bool s6, .int .u64 sh, .int .u64 sl, .bool d6, .int .u64 dh, .int .u64 dl, .slice A n c, .int .i64 p] 29) := ⟨_, rfl⟩
  have E1 := Lib.hid hw1
  have BA := Lib.hid (show Below w.heap.size w w1 from by rw [hw1]; exact (Below.refl _ _).alloc (Nat.le_refl _) _)
  have KB := Lib.hid (show Blk w1 w.heap.size 29 #[.int .i64 cls, .int .i64 lab, .int .i64 hop, .bool s6, .int .u64 sh, .int .u64 sl, .bool d6, .int .u64 dh, .int .u64 dl, .slice A n c, .int .i64 p] from by rw [hw1]; exact Blk.new w _ _)
  obtain ⟨g, hg⟩ : ∃ g, g = w.heap.size := ⟨_, rfl⟩
  have EG := Lib.hid hg
  have SZ1 := Lib.hid (show w1.heap.size = g + 1 from by rw [hw1, hg]; simp)
  have HSV := Lib.hid (show ∀ V, Below w1.heap.size w1 V → (V.cell? ⟨g, 0, none⟩ = some (.int .i64 cls) ∧ V.cell? ⟨g, 1, none⟩ = some (.int .i64 lab) ∧ V.cell? ⟨g, 2, none⟩ = some (.int .i64 hop) ∧ V.cell? ⟨g, 3, none⟩ = some (.bool s6) ∧ V.cell? ⟨g, 4, none⟩ = some (.int .u64 sh) ∧ V.cell? ⟨g, 5, none⟩ = some (.int .u64 sl) ∧ V.cell? ⟨g, 6, none⟩ = some (.bool d6) ∧ V.cell? ⟨g, 7, none⟩ = some (.int .u64 dh) ∧ V.cell? ⟨g, 8, none⟩ = some (.int .u64 dl) ∧ V.cell? ⟨g, 9, none⟩ = some (.slice A n c) ∧ V.cell? ⟨g, 10, none⟩ = some (.int .i64 p)) from fun V hV => by
    have K := KB.out.below hV KB.out.lt
    rw [← hg] at K
    exact ⟨K.cell 0, K.cell 1, K.cell 2, K.cell 3, K.cell 4, K.cell 5, K.cell 6, K.cell 7, K.cell 8, K.cell 9, K.cell 10⟩)
  clear hw1 hg
  obtain ⟨i0, hi0, hz0, hz1, hz2_⟩ := info_parts info_u8
  have HI0 := Lib.hid hi0
  have HZ0 := Lib.hid hz0
  have HZ1 := Lib.hid hz1
  have HZ2 := Lib.hid hz2_
  have HH := Lib.hid hre
  have HL := Lib.hid hl
  have HRD := Lib.hid hrd
  have HSB := Lib.hid hsb
  have HLN := Lib.hid hln
  have HRL := Lib.hid hrl
  have HTL := Lib.hid htl
  have HRW := Lib.hid hrow
  have HRW2 := Lib.hid hrow2
  have HZA2 := Lib.hid hz2
  have HRH := Lib.hid hRH
  have HP := Lib.hid (And.intro hp1 (And.intro hp2 (And.intro hp3 (And.intro hp4 (And.intro hp5 hp6)))))
  obtain ⟨xl, hxle⟩ : ∃ xl, xl = extL X := ⟨_, rfl⟩
  have HXL := Lib.hid hxle
  rw [← hxle] at hxl HBY HLB HLE HLN
  clear hi0 hz0 hz1 hz2_ hre hl hrd hsb hln hrl htl hrow hrow2 hz2 hRH hp1 hp2 hp3 hp4 hp5 hp6 hxle
  go_enter Try.func4, Try.ntmps4
  go_upto_region 1 with fail
  rw [← E1.out, ← EG.out]
  go_wp2_with fail
  refine (HC1.out _).mono ?_
  rintro o w' ⟨rfl, rfl⟩
  obtain ⟨x0, x1, x2, x3, x4, x5, x6, x7, x8, x9, x10⟩ := HSV.out w1 (Below.refl _ _)
  go_wp2_with fail
  refine (HBY.out w1 BA.out).mono ?_
  rintro o w2 ⟨vb, rfl, ho2, hb2⟩
  obtain ⟨gb, cb, hvb, gbB, gbl, gbn, gbm, gbc, gbx⟩ := own_form ho2 (by omega)
  subst hvb
  have OB2 := Lib.hid ho2
  clear ho2 gbB gbl gbn gbm gbc gbx
  have B2 := Lib.hid hb2
  clear hb2 x0 x1 x2 x3 x4 x5 x6 x7 x8 x9 x10
  have D2 := Lib.hid (HSV.out w2.drew B2.out.drew)
  go_upto_region 3 with fail
  go_region_held3 (fun V => V.cell? ⟨g, 0, none⟩ = some (.int .i64 cls) ∧ V.cell? ⟨g, 1, none⟩ = some (.int .i64 lab) ∧ V.cell? ⟨g, 2, none⟩ = some (.int .i64 hop) ∧ V.cell? ⟨g, 3, none⟩ = some (.bool s6) ∧ V.cell? ⟨g, 4, none⟩ = some (.int .u64 sh) ∧ V.cell? ⟨g, 5, none⟩ = some (.int .u64 sl) ∧ V.cell? ⟨g, 6, none⟩ = some (.bool d6) ∧ V.cell? ⟨g, 7, none⟩ = some (.int .u64 dh) ∧ V.cell? ⟨g, 8, none⟩ = some (.int .u64 dl) ∧ V.cell? ⟨g, 9, none⟩ = some (.slice A n c) ∧ V.cell? ⟨g, 10, none⟩ = some (.int .i64 p)) (first | with_reducible assumption | with_reducible exact D4.out | with_reducible exact D3.out | with_reducible exact D2.out) (first
    | (go_at_call 19; with_reducible refine (HR.out _ (BA.out.trans (B2.out.drew.mono BA.out.size))).mono ?_; rintro o w3 ⟨rfl, hb3⟩; have B3 := Lib.hid (B2.out.drew.trans (hb3.mono B2.out.drew.size)); have D3 := Lib.hid (HSV.out w3 B3.out); have Z3 := Lib.hid ((Below.refl w2.heap.size w2).drew.trans (hb3.mono (Below.refl w2.heap.size w2).drew.size)); clear hb3)
    | (go_at_call 16; with_reducible refine (HLR.out _ (BA.out.trans (B3.out.mono BA.out.size))).mono ?_; rintro o w4 ⟨rfl, hb4⟩; have B4 := Lib.hid (B3.out.trans (hb4.mono B3.out.size)); have D4 := Lib.hid (HSV.out w4 B4.out); have Z4 := Lib.hid (Z3.out.trans (hb4.mono Z3.out.size)); clear hb4))
  clear D2 D3
  obtain ⟨x0, x1, x2, x3, x4, x5, x6, x7, x8, x9, x10⟩ := D4.out
  go_wp2_with fail
  refine (HLR.out _ (BA.out.trans (B4.out.mono BA.out.size))).mono ?_
  rintro o w5 ⟨rfl, hb5⟩
  have B5 := Lib.hid (B4.out.trans (hb5.mono B4.out.size))
  have HB25 := Lib.hid (Z4.out.trans (hb5.mono Z4.out.size))
  clear hb5 x0 x1 x2 x3 x4 x5 x6 x7 x8 x9 x10 D4
  obtain ⟨x0, x1, x2, x3, x4, x5, x6, x7, x8, x9, x10⟩ := HSV.out w5 B5.out
  go_wp2_with fail
  refine (HLB.out _ (BA.out.trans (B5.out.mono BA.out.size))).mono ?_
  rintro o w6 ⟨vw, rfl, ho6, hb6⟩
  obtain ⟨Aw, cw, hvw⟩ := own_slice ho6
  subst hvw
  have B6 := Lib.hid (B5.out.trans (hb6.mono B5.out.size))
  have OB6 := Lib.hid (own_below2 OB2.out (HB25.out.trans (hb6.mono HB25.out.size)))
  have B26 := Lib.hid (HB25.out.trans (hb6.mono HB25.out.size))
  obtain ⟨TB, hTB⟩ : ∃ TB, TB = strOfNums SB := ⟨_, rfl⟩
  obtain ⟨TR, hTR⟩ : ∃ TR, TR = strOfNums r := ⟨_, rfl⟩
  have HTR := Lib.hid hTR
  have cv1 := conv_row (c := cb) (own_row OB6.out) HLN.out
  have cv2 := conv_row (c := cw) (own_row ho6) HLN.out
  rw [← hTB] at cv1 cv2
  have wl : IntKind.i64.wrap (40 + (xl : Int) + m - m) = ((40 + xl : Nat) : Int) := by rw [IntWalk.i64_in _ (by omega)]; omega
  clear hb6 x0 x1 x2 x3 x4 x5 x6 x7 x8 x9 x10 hTB ho6 hTR
  obtain ⟨x0, x1, x2, x3, x4, x5, x6, x7, x8, x9, x10⟩ := HSV.out w6 B6.out
  go_wp2_with fail
  refine (HLE.out _ (BA.out.trans (B6.out.mono BA.out.size))).mono ?_
  rintro o w7 ⟨rfl, hb7⟩
  have B7 := Lib.hid (B6.out.trans (hb7.mono B6.out.size))
  have OB7 := Lib.hid (own_below2 OB6.out hb7)
  have B67 := Lib.hid hb7
  clear hb7 x0 x1 x2 x3 x4 x5 x6 x7 x8 x9 x10 cv1 cv2
  have HLIT := Lib.hid (World.ownsRow_lit (base := w7.heap.size) (e := 5) (size := 1) w7 #[] 0 (Nat.le_refl _) (Nat.zero_le _) rfl)
  have BLA := Lib.hid ((Below.refl w7.heap.size w7).alloc (Nat.le_refl _) (.cells #[] 5))
  have ME1 := Lib.hid (show 0 + (40 + xl + m) ≤ maxLen by unfold maxLen; omega)
  have ME2 := Lib.hid (show (0 + (40 + xl + m)) * 1 ≤ 140737488355328 by omega)
  have ME3 := Lib.hid (show 40 + xl + m + m2 ≤ maxLen by unfold maxLen; omega)
  have ME4 := Lib.hid (show (40 + xl + m + m2) * 1 ≤ 140737488355328 by omega)
  have BW7 := Lib.hid (BA.out.trans (B7.out.mono BA.out.size))
  go_wp2_with (first
    | (at_builtin; refine wpList_append_row rfl (.tmp 65) (.tmp 66) _ rfl w7.heap.size 5 i0 _ 1 Try.underlying22 HI0.out HZ0.out HZ1.out HZ2.out rfl (.slice (some ⟨w7.heap.size, 0, none⟩) 0 0) 0 [] rfl HLIT.out (some ⟨gb, 0, none⟩) (40 + xl + m) cb w7.heap.size (SB.map (.int .u8)) rfl (by intro h; cases h) (by rw [List.length_map]; exact HLN.out) ((own_row OB7.out).below BLA.out) (one_map _) ME1.out ME2.out (by simp) ?_; intro va wa owna ga; have HOa := Lib.hid (show wa.ownsRow w7.heap.size 5 1 va (40 + xl + m) (SB.map (.int .u8)) from by simpa using owna); have HBa := Lib.hid (below_grown BLA.out HLIT.out (Nat.le_refl _) (by simp) ga); clear owna ga)
    | (go_at_call 10; refine (HC2.out _).mono ?_; rintro e w' ⟨rfl, rfl⟩)
    | (at_builtin; have hsa := HBa.out.size; refine wpList_append_row rfl (.tmp 67) (.tmp 69) _ rfl w7.heap.size 5 i0 _ 1 Try.underlying22 HI0.out HZ0.out HZ1.out HZ2.out rfl va (40 + xl + m) _ rfl HOa.out A2 m2 c2 w.heap.size (t.map (.int .u8)) rfl HZA2.out (by rw [List.length_map]; exact HTL.out) (HRW2.out.below (BW7.out.trans (HBa.out.mono BW7.out.size))) (one_map _) ME3.out ME4.out hsa ?_; intro vb2 wb ownb2 gb_; have HOb := Lib.hid ownb2; have HBb := Lib.hid (below_grown HBa.out HOa.out (Nat.le_refl _) hsa gb_); clear ownb2 gb_))
  have hob := HOb.out
  rw [← List.map_append] at hob
  have BW_ := Lib.hid (BW7.out.trans (HBb.out.mono BW7.out.size))
  have BB1 := Lib.hid (B7.out.trans (HBb.out.mono B7.out.size))
  have OBb := Lib.hid (own_below2 OB7.out HBb.out)
  have HPX := Lib.hid (show Calls Try.prog 11 #[vb2] wb (GoodP wb (SB ++ t) X p r) from by
    obtain ⟨gy, cy, hvy, _, gyl, hncy, hcy, _, _⟩ := own_form hob (by omega)
    unfold maxLen at hcy
    rw [hvy]
    have hly : (SB ++ t).length = 40 + xl + m + m2 := by rw [List.length_append, HLN.out, HTL.out]
    have h9 := parse_ok gy 0 (40 + xl + m + m2) cy (SB ++ t) wb hly (by omega) (by omega) hncy hcy gyl (Go.Proofs.Ytndekicblbpkjaa.net.lies_own (hvy ▸ hob) hly) (huS.join hut) HP.out.2.2.2.2.2
    rw [HP.out.1] at h9
    exact h9.mono fun o w' h => headP_good h)
  clear hob HOa HOb HBa HLIT BLA
  refine HPX.out.mono ?_
  rintro o w9 hgp
  obtain ⟨hb9, Lx, Ap, cp, Br, dr, rfl, hre9, hgx9, hrw9⟩ := goodP2 HP.out.2.1 (show X.length = n from by rw [← HH.out, List.length_map]; exact HL.out) HRL.out hgp
  obtain ⟨w10, hw10⟩ : ∃ w10, w10 = w9.alloc (.cells #[.int .i64 cls, .int .i64 lab, .int .i64 hop, .bool s6, .int .u64 sh, .int .u64 sl, .bool d6, .int .u64 dh, .int .u64 dl, .slice Ap n cp, .int .i64 p] 29) := ⟨_, rfl⟩
  have E10 := Lib.hid hw10
  have BZ := Lib.hid (show Below w9.heap.size w9 w10 from by rw [hw10]; exact (Below.refl _ _).alloc (Nat.le_refl _) _)
  have BK10 := Lib.hid (show Blk w10 w9.heap.size 29 #[.int .i64 cls, .int .i64 lab, .int .i64 hop, .bool s6, .int .u64 sh, .int .u64 sl, .bool d6, .int .u64 dh, .int .u64 dl, .slice Ap n cp, .int .i64 p] from by rw [hw10]; exact Blk.new w9 _ _)
  have BB10 := Lib.hid ((BB1.out.trans (hb9.mono BB1.out.size)).trans (BZ.out.mono (Nat.le_trans BB1.out.size hb9.size)))
  have OB10 := Lib.hid (own_below2 (own_below2 OBb.out hb9) BZ.out)
  have GX10 := Lib.hid (hgx9.below BZ.out)
  have RW10 := Lib.hid (own_below2 hrw9 BZ.out)
  have HRE9 := Lib.hid hre9
  clear hw10 hb9 hgx9 hrw9 hre9 hgp HPX
  go_upto_region 11 with fail
  rw [← E10.out]
  have HQX := Lib.hid (show Calls Try.prog 12 #[.slice (some ⟨gb, 0, none⟩) (40 + xl + m) cb] w10 (GoodP w10 SB X p r) from by
    obtain ⟨gy, cy, hvy, _, gyl, hncy, hcy, _, _⟩ := own_form OB10.out (by omega)
    injection hvy with h1 h2 h3
    injection h1 with h1
    injection h1 with h1
    subst h1 h3
    unfold maxLen at hcy
    have h9 := quote_ok gb 0 (40 + xl + m) cb SB w10 HLN.out (by omega) (by omega) hncy hcy gyl (Go.Proofs.Ytndekicblbpkjaa.net.lies_own OB10.out HLN.out) huS HP.out.2.2.2.2.1
    rw [HP.out.2.2.1] at h9
    exact h9.mono fun o w' h => headP_good h)
  go_wp2_with fail
  refine HQX.out.mono ?_
  rintro o w11 hgp
  obtain ⟨hb11, Ly, Aq, cq, Bs, ds, rfl, hre11, hgx11, hrw11⟩ := goodP2 HP.out.2.2.2.1 (show X.length = n from by rw [← HH.out, List.length_map]; exact HL.out) HRL.out hgp
  obtain ⟨w12, hw12⟩ : ∃ w12, w12 = w11.alloc (.cells #[.int .i64 cls, .int .i64 lab, .int .i64 hop, .bool s6, .int .u64 sh, .int .u64 sl, .bool d6, .int .u64 dh, .int .u64 dl, .slice Aq n cq, .int .i64 p] 29) := ⟨_, rfl⟩
  have E12 := Lib.hid hw12
  have BZ2 := Lib.hid (show Below w11.heap.size w11 w12 from by rw [hw12]; exact (Below.refl _ _).alloc (Nat.le_refl _) _)
  have BC := Lib.hid (show Below w10.heap.size w10 w12 from hb11.trans (BZ2.out.mono hb11.size))
  have BK12 := Lib.hid (BK10.out.below BC.out BK10.out.lt)
  have BK13 := Lib.hid (show Blk w12 w11.heap.size 29 #[.int .i64 cls, .int .i64 lab, .int .i64 hop, .bool s6, .int .u64 sh, .int .u64 sl, .bool d6, .int .u64 dh, .int .u64 dl, .slice Aq n cq, .int .i64 p] from by rw [hw12]; exact Blk.new w11 _ _)
  have BB12 := Lib.hid (BB10.out.trans (BC.out.mono BB10.out.size))
  have GX12 := Lib.hid (GX10.out.below BC.out)
  have RW12 := Lib.hid (own_below2 RW10.out BC.out)
  have GY12 := Lib.hid (hgx11.below BZ2.out)
  have RY12 := Lib.hid (own_below2 hrw11 BZ2.out)
  have BWX := Lib.hid (BA.out.trans (BB12.out.mono BA.out.size))
  have HRE11 := Lib.hid hre11
  clear hw12 hb11 hgx11 hrw11 hre11 hgp HQX
  have SMX := Lib.hid (show ∀ V, Below w12.heap.size w12 V → Calls Try.prog 13 #[.agg #[.int .i64 cls, .int .i64 lab, .int .i64 hop, .bool s6, .int .u64 sh, .int .u64 sl, .bool d6, .int .u64 dh, .int .u64 dl, .slice Ap n cp, .int .i64 p], .agg #[.int .i64 cls, .int .i64 lab, .int .i64 hop, .bool s6, .int .u64 sh, .int .u64 sl, .bool d6, .int .u64 dh, .int .u64 dl, .slice A n c, .int .i64 p]] V fun o w' => o = .returned (.bool true) ∧ Below V.heap.size V w' from fun V hV => same_true ⟨cls, lab, hop, s6, sh, sl, d6, dh, dl, p⟩ Ap A n cp c Lx l V ((GX12.out.below hV).rd fun e he => hUX e.re (by rw [← HRE9.out]; exact List.mem_map_of_mem he)) (HRD.out.below (BWX.out.trans (hV.mono BWX.out.size))) (by have := congrArg List.length HRE9.out; rw [List.length_map] at this; rw [this, ← HH.out, List.length_map]; exact HL.out) (HRE9.out.trans HH.out.symm) (by omega))
  have SMY := Lib.hid (show ∀ V, Below w12.heap.size w12 V → Calls Try.prog 13 #[.agg #[.int .i64 cls, .int .i64 lab, .int .i64 hop, .bool s6, .int .u64 sh, .int .u64 sl, .bool d6, .int .u64 dh, .int .u64 dl, .slice Aq n cq, .int .i64 p], .agg #[.int .i64 cls, .int .i64 lab, .int .i64 hop, .bool s6, .int .u64 sh, .int .u64 sl, .bool d6, .int .u64 dh, .int .u64 dl, .slice A n c, .int .i64 p]] V fun o w' => o = .returned (.bool true) ∧ Below V.heap.size V w' from fun V hV => same_true ⟨cls, lab, hop, s6, sh, sl, d6, dh, dl, p⟩ Aq A n cq c Ly l V ((GY12.out.below hV).rd fun e he => hUX e.re (by rw [← HRE11.out]; exact List.mem_map_of_mem he)) (HRD.out.below (BWX.out.trans (hV.mono BWX.out.size))) (by have := congrArg List.length HRE11.out; rw [List.length_map] at this; rw [this, ← HH.out, List.length_map]; exact HL.out) (HRE11.out.trans HH.out.symm) (by omega))
  have CVS := Lib.hid (show ∀ V, Below w12.heap.size w12 V → ((convert 22 9 (.slice Br m dr)).run Try.prog V = .ok (.string TR) V ∧ (convert 22 9 (.slice Bs m ds)).run Try.prog V = .ok (.string TR) V ∧ (convert 22 9 (.slice A1 m c1)).run Try.prog V = .ok (.string TR) V) from fun V hV => by
    rw [HTR.out]
    exact ⟨conv_row (own_row (own_below2 RW12.out hV)) HRL.out, conv_row (own_row (own_below2 RY12.out hV)) HRL.out, conv_row (HRW.out.below (BWX.out.trans (hV.mono BWX.out.size))) HRL.out⟩)
  go_upto_region 12 with fail
  rw [← E12.out]
  obtain ⟨x0, x1, x2, x3, x4, x5, x6, x7, x8, x9, x10⟩ := HSV.out w12 BB12.out
  have y0 := BK12.out.cell 0
  have y1 := BK12.out.cell 1
  have y2 := BK12.out.cell 2
  have y3 := BK12.out.cell 3
  have y4 := BK12.out.cell 4
  have y5 := BK12.out.cell 5
  have y6 := BK12.out.cell 6
  have y7 := BK12.out.cell 7
  have y8 := BK12.out.cell 8
  have y9 := BK12.out.cell 9
  have y10 := BK12.out.cell 10
  go_wp2_with fail
  refine (SMX.out _ (Below.refl _ _)).mono ?_
  rintro o w13 ⟨rfl, hb13⟩
  have B13 := Lib.hid hb13
  have BK14 := Lib.hid (BK13.out.below hb13 BK13.out.lt)
  clear hb13 x0 x1 x2 x3 x4 x5 x6 x7 x8 x9 x10 y0 y1 y2 y3 y4 y5 y6 y7 y8 y9 y10
  obtain ⟨x0, x1, x2, x3, x4, x5, x6, x7, x8, x9, x10⟩ := HSV.out w13 (BB12.out.trans (B13.out.mono BB12.out.size))
  have y0 := BK14.out.cell 0
  have y1 := BK14.out.cell 1
  have y2 := BK14.out.cell 2
  have y3 := BK14.out.cell 3
  have y4 := BK14.out.cell 4
  have y5 := BK14.out.cell 5
  have y6 := BK14.out.cell 6
  have y7 := BK14.out.cell 7
  have y8 := BK14.out.cell 8
  have y9 := BK14.out.cell 9
  have y10 := BK14.out.cell 10
  go_wp2_with fail
  refine (SMY.out _ B13.out).mono ?_
  rintro o w14 ⟨rfl, hb14⟩
  have B14 := Lib.hid (B13.out.trans (hb14.mono B13.out.size))
  clear hb14 x0 x1 x2 x3 x4 x5 x6 x7 x8 x9 x10 y0 y1 y2 y3 y4 y5 y6 y7 y8 y9 y10
  obtain ⟨cva, cvb, cvc⟩ := CVS.out w14 B14.out
  go_wp2_with fail
  refine (awake_any _).mono ?_
  rintro o w15 ⟨rfl, hb15⟩
  have B15 := Lib.hid (B14.out.trans (hb15.mono B14.out.size))
  clear hb15 cva cvb cvc
  go_wp2_with fail
  go_ret
  exact ⟨rfl, BWX.out.trans (B15.out.mono BWX.out.size)⟩
end Go.Proofs.Ytndekicblbpkjaa.sixZ
namespace Go.Proofs.Ytndekicblbpkjaa.sixZz
open Go.ChangeShapes Go.WideShapes Go.ChangeAt Go.RowKit
open Go.Proofs.Ytndekicblbpkjaa.base Go.Proofs.Ytndekicblbpkjaa.octA Go.Proofs.Ytndekicblbpkjaa.octB Go.Proofs.Ytndekicblbpkjaa.octC Go.Proofs.Ytndekicblbpkjaa.octF Go.Proofs.Ytndekicblbpkjaa.octK Go.Proofs.Ytndekicblbpkjaa.net Go.Proofs.Ytndekicblbpkjaa.rdrA Go.Proofs.Ytndekicblbpkjaa.rdrG Go.Proofs.Ytndekicblbpkjaa.sumA Go.Proofs.Ytndekicblbpkjaa.sumB Go.Proofs.Ytndekicblbpkjaa.udpA Go.Proofs.Ytndekicblbpkjaa.tcpC Go.Proofs.Ytndekicblbpkjaa.sixW Go.Proofs.Ytndekicblbpkjaa.sixM Go.Proofs.Ytndekicblbpkjaa.snK Go.Proofs.Ytndekicblbpkjaa.sixA Go.Proofs.Ytndekicblbpkjaa.sixB Go.Proofs.Ytndekicblbpkjaa.sixC Go.Proofs.Ytndekicblbpkjaa.sixD Go.Proofs.Ytndekicblbpkjaa.sixE Go.Proofs.Ytndekicblbpkjaa.sixF Go.Proofs.Ytndekicblbpkjaa.sixG Go.Proofs.Ytndekicblbpkjaa.sixH Go.Proofs.Ytndekicblbpkjaa.sixI Go.Proofs.Ytndekicblbpkjaa.sixK Go.Proofs.Ytndekicblbpkjaa.sixL Go.Proofs.Ytndekicblbpkjaa.sixN Go.Proofs.Ytndekicblbpkjaa.sixO Go.Proofs.Ytndekicblbpkjaa.sixQ Go.Proofs.Ytndekicblbpkjaa.sixR Go.Proofs.Ytndekicblbpkjaa.sixS Go.Proofs.Ytndekicblbpkjaa.sixT Go.Proofs.Ytndekicblbpkjaa.sixU Go.Proofs.Ytndekicblbpkjaa.sixY Go.Proofs.Ytndekicblbpkjaa.sixX Go.Proofs.Ytndekicblbpkjaa.sixZ
set_option linter.unusedVariables false

theorem pb_u8 (n : Int) (k j : Nat) : U8 (pb n k j) := fun x hx => by
  simp only [pb, List.mem_map] at hx
  obtain ⟨t, _, rfl⟩ := hx
  exact byteZ_in n _
theorem sixB_u8 (h : Hs) (X : List XP) (r : List Int) (hR : RightH h X) (hU : ∀ x ∈ X, U8 x.2) (hr : U8 r) : U8 (sixB h X r) := by
  have hx := extB_in X h.p (fun x hx => ⟨hU x hx, hR.e.kinds x hx⟩) ⟨hR.p0, hR.p1⟩
  have c0 := hR.c0; have c1 := hR.c1; have l0 := hR.l0; have l1 := hR.l1; have h0 := hR.h0; have h1 := hR.h1
  have h8 : U8 (hd8 h.cls h.lab h.hop (nextK X h.p) (extL X + r.length)) := fun x hx2 => by
    simp only [hd8, List.mem_cons, List.not_mem_nil, or_false] at hx2
    rcases hx2 with rfl | rfl | rfl | rfl | rfl | rfl | rfl | rfl <;> first | omega | exact hx.2
  exact ((h8.join ((pb_u8 _ _ _).join (pb_u8 _ _ _))).join ((pb_u8 _ _ _).join (pb_u8 _ _ _))).join (hx.1.join hr)
theorem puts_any (x : Hs) (A : Option Addr) (c : Nat) (l : List Xt) (A1 : Option Addr) (n1 c1 : Nat) (l1 : List Int) (A2 : Option Addr) (n2 c2 : Nat) (l2 : List Int) (w : World) (hrd : RdX w A l) (hnc : l.length ≤ c) (hc : c ≤ 9223372036854775807)
    (hsh : 0 ≤ x.sh ∧ x.sh < 18446744073709551616) (hsl : 0 ≤ x.sl ∧ x.sl < 18446744073709551616) (hdh : 0 ≤ x.dh ∧ x.dh < 18446744073709551616) (hdl : 0 ≤ x.dl ∧ x.dl < 18446744073709551616)
    (hl1 : l1.length = n1) (hr1 : Row w w.heap.size A1 (l1.map (.int .u8))) (hu1 : U8 l1) (hnc1 : n1 ≤ c1) (hc1 : c1 ≤ 9223372036854775807) (hz1 : A1 = none → c1 = 0)
    (hl2 : l2.length = n2) (hr2 : Row w w.heap.size A2 (l2.map (.int .u8))) (hu2 : U8 l2) (hnc2 : n2 ≤ c2) (hc2 : c2 ≤ 9223372036854775807) (hz2 : A2 = none → c2 = 0) :
    Calls Try.prog 4 #[.agg (x.cells (.slice A l.length c)), .slice A1 n1 c1, .slice A2 n2 c2] w fun o w' => o = .returned (.bool true) ∧ Below w.heap.size w w' := by
  have HC1 := cut_hid hl1 hr1 hnc1 hc1
  have HC2 := cut_hid hl2 hr2 hnc2 hc2
  have hd : ∀ e ∈ l, e.d.length ≤ 9223372036854775807 := fun e he => by have := hrd.els e he; omega
  have hrR : ∀ V, Below w.heap.size w V → RdX V A l := fun V hV => hrd.below hV
  have HR : ∀ V, Below w.heap.size w V → Calls Try.prog 19 #[.agg (x.cells (.slice A l.length c))] V (RightP V x (l.map Xt.re)) := fun V hV => right_any x A l.length c l V rfl (hrR V hV) hnc (by omega) hd
  have HLR : ∀ V, Below w.heap.size w V → Calls Try.prog 16 #[.agg (x.cells (.slice A l.length c))] V (RightP V x (l.map Xt.re)) := fun V hV => lright_any x A l.length c l V rfl (hrR V hV) hnc (by omega) hd
  by_cases hX : RightH x (l.map Xt.re)
  · have hr : (l1.take (min n1 500)).length = min n1 500 := by rw [List.length_take]; omega
    have ht : (l2.take (min n2 500)).length = min n2 500 := by rw [List.length_take]; omega
    have hrow1 : Row w w.heap.size A1 ((l1.take (min n1 500)).map (.int .u8)) := by
      have := hr1.take (min n1 500)
      rwa [← List.map_take] at this
    have hrow2 : Row w w.heap.size A2 ((l2.take (min n2 500)).map (.int .u8)) := by
      have := hr2.take (min n2 500)
      rwa [← List.map_take] at this
    have hU : ∀ y ∈ l.map Xt.re, U8 y.2 := fun y hy => by
      obtain ⟨e, he, rfl⟩ := List.mem_map.mp hy
      exact (hrd.els e he).2.2.2.1
    obtain ⟨p1, p2, p3, p4, p5, p6, p7⟩ := put_parse x (l.map Xt.re) (l1.take (min n1 500)) (l2.take (min n2 500)) hX hU (by omega) hsh hsl hdh hdl
    have h8 : l.length ≤ 8 := by have := hX.e.most; rw [List.length_map] at this; exact this
    have hx := extL_le hX.e
    have hd7 : ∀ e ∈ l, e.d.length ≤ 2047 := fun e he => le2047 hX.e e.re (List.mem_map_of_mem he)
    obtain ⟨SB, hSB⟩ : ∃ SB, SB = sixB x (l.map Xt.re) (l1.take (min n1 500)) := ⟨_, rfl⟩
    have huS : U8 SB := hSB ▸ sixB_u8 x _ _ hX hU (hu1.take _)
    rw [hr] at p7
    rw [← hSB] at p1 p2 p3 p4 p5 p6 p7
    have HBY : ∀ V, Below w.heap.size w V → Calls Try.prog 18 #[.agg (x.cells (.slice A l.length c)), .slice A1 (min n1 500) c1] V fun o w' => ∃ v, o = .returned (.tuple #[v, .int .i64 0]) ∧ w'.ownsRow V.heap.size 5 1 v (40 + extL (l.map Xt.re) + min n1 500) (SB.map (.int .u8)) ∧ Below V.heap.size V w' := fun V hV => by
      have h9 := bytes_any x A l.length c l A1 (min n1 500) c1 (l1.take (min n1 500)) V rfl (hrR V hV) hnc hX hsh hsl hdh hdl hr ((hrow1.below hV).more hV.size) (by omega) hz1
      rw [← hSB, p7] at h9
      exact h9
    have HLB : ∀ V, Below w.heap.size w V → Calls Try.prog 17 #[.agg (x.cells (.slice A l.length c)), .slice A1 (min n1 500) c1] V fun o w' => ∃ v, o = .returned v ∧ w'.ownsRow V.heap.size 5 1 v (40 + extL (l.map Xt.re) + min n1 500) (SB.map (.int .u8)) ∧ Below V.heap.size V w' := fun V hV => by
      have h9 := lbytes_any x A l.length c l A1 (min n1 500) c1 (l1.take (min n1 500)) V rfl (hrR V hV) hX hsh hsl hdh hdl hr ((hrow1.below hV).more hV.size) (by omega) hz1
      rw [← hSB, p7] at h9
      exact h9
    have HLE : ∀ V, Below w.heap.size w V → Calls Try.prog 20 #[.agg (x.cells (.slice A l.length c))] V fun o w' => o = .returned (.int .i64 (40 + extL (l.map Xt.re) : Nat)) ∧ Below V.heap.size V w' := fun V hV => len_any x A l.length c l V rfl (hrR V hV) h8 hd7
    obtain ⟨cls, lab, hop, s6, sh, sl, d6, dh, dl, p⟩ := x
    exact puts_yes _ _ cls lab hop s6 sh sl d6 dh dl p A l.length c A1 (min n1 500) c1 w l (l.map Xt.re) A2 (min n2 500) c2 (l1.take (min n1 500)) (l2.take (min n2 500)) SB rfl rfl hrd hSB p7 hx (by omega) (by omega) hr ht h8 hrow1 hrow2 (hu1.take _) (hu2.take _) hU hz2 hX huS p1 p2 p3 p4 p5 p6 HC2 (Lib.hid HBY) (Lib.hid HLB) (Lib.hid HLE) HC1
      (Lib.hid fun V hV => (HR V hV).mono fun o w' h => by
        obtain ⟨v, rfl, h1, h2⟩ := h
        exact ⟨by rw [h1.mpr hX], h2⟩)
      (Lib.hid fun V hV => (HLR V hV).mono fun o w' h => by
        obtain ⟨v, rfl, h1, h2⟩ := h
        exact ⟨by rw [h1.mpr hX], h2⟩)
  · obtain ⟨cls, lab, hop, s6, sh, sl, d6, dh, dl, p⟩ := x
    have fl : ∀ v : Bool, (v = true ↔ RightH ⟨cls, lab, hop, s6, sh, sl, d6, dh, dl, p⟩ (l.map Xt.re)) → v = false := fun v h1 => by
      cases v with
      | false => rfl
      | true => exact absurd (h1.mp rfl) hX
    exact puts_no _ _ cls lab hop s6 sh sl d6 dh dl p A l.length c A1 (min n1 500) c1 w HC1
      (Lib.hid fun V hV => (HR V hV).mono fun o w' h => by
        obtain ⟨v, rfl, h1, h2⟩ := h
        exact ⟨by rw [fl v h1], h2⟩)
      (Lib.hid fun V hV => (HLR V hV).mono fun o w' h => by
        obtain ⟨v, rfl, h1, h2⟩ := h
        exact ⟨by rw [fl v h1], h2⟩)
end Go.Proofs.Ytndekicblbpkjaa.sixZz
