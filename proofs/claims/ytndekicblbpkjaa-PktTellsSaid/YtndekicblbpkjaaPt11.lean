/- 1 texts in one. -/
import Derived.Laws.AppendOwnNone
import Derived.Test.YtndekicblbpkjaaPt10
/- Layer 9: readData where bytes lack; begin. -/
namespace Go.Proofs.Ytndekicblbpkjaa.sixD
open Go.ChangeShapes Go.WideShapes Go.ChangeAt Go.RowKit
open Go.Proofs.Ytndekicblbpkjaa.base Go.Proofs.Ytndekicblbpkjaa.octA Go.Proofs.Ytndekicblbpkjaa.octF Go.Proofs.Ytndekicblbpkjaa.net Go.Proofs.Ytndekicblbpkjaa.rdrA Go.Proofs.Ytndekicblbpkjaa.rdrG Go.Proofs.Ytndekicblbpkjaa.sixW Go.Proofs.Ytndekicblbpkjaa.sixM
set_option linter.unusedVariables false

def FailP (w : World) (B g : Nat) (o : Ending) (w' : World) : Prop :=
  ∃ v l' e', o = .returned v ∧ St w' B g l' e' ∧ e' ≠ 0 ∧ Below B w w' ∧ Els g w w' ∧ w.heap.size ≤ w'.heap.size
set_option maxHeartbeats 4000000 in
set_option maxRecDepth 100000 in
theorem data_none (B g : Nat) (p : Int) (l : List Int) (e : Int) (w : World) (hB : B ≤ g) (h : St w B g l e) (hf : e ≠ 0 ∨ l.length < 7) :
    Calls Try.prog 74 #[.pointer (some ⟨g, 0, none⟩), .int .i64 p] w (FailP w B g) := by
  have hgl := h.lt
  have RAW := Lib.hid (raw_bad B g 7 l e w h hf (by omega))
  have HB := Lib.hid hB
  have HNE := Lib.hid (sh_ne e)
  obtain ⟨e2, he2⟩ : ∃ e2, e2 = sh e := ⟨_, rfl⟩
  rw [← he2] at RAW HNE
  have HF := Lib.hid (show ∀ v w', St w' B g [] e2 → Below B w w' → Els g w w' → w.heap.size ≤ w'.heap.size → FailP w B g (.returned v) w' from fun v w' h1 h2 h3 h4 => ⟨v, [], e2, rfl, h1, HNE.out, h2, h3, h4⟩)
  have te : (e2 != 0) = true := by simpa using HNE.out
  clear h hf hB he2
  cases hp : (p == 44) with
  | true =>
    go_enter Try.func74, Try.ntmps74
    go_wp2_with fail
    refine RAW.out.mono ?_
    rintro o w2 ⟨rfl, hs2, ho2⟩
    have S2 := Lib.hid hs2
    have ON2 := Lib.hid ho2
    have Z2 := Lib.hid (show w2.heap.size = w.heap.size from ho2.size)
    have CL := Lib.hid (clone_any none 0 0 [] w2 rfl (by omega) (fun _ => rfl) (.inl rfl))
    clear hs2 ho2
    go_wp2_with fail
    refine CL.out.mono ?_
    rintro o w3 ⟨v, rfl, ho3, hb3, hs3⟩
    have hb := HB.out
    have S3 := Lib.hid (S2.out.below hb3 (by have := Z2.out; omega) (by have := Z2.out; omega))
    have BB3 := Lib.hid ((ON2.out.bel.mono hb).trans (hb3.mono (by have := Z2.out; omega)))
    have EL3 := Lib.hid ((toEls ON2.out).below (by have := Z2.out; omega) hb3)
    have Z3 := Lib.hid (show w.heap.size ≤ w3.heap.size from by have := hb3.size; have := Z2.out; omega)
    clear ho3 hb3 hs3 hb
    go_wp2_with fail
    go_ret
    exact HF.out _ _ S3.out BB3.out EL3.out Z3.out
  | false =>
    go_enter Try.func74, Try.ntmps74
    go_wp2_with fail
    refine RAW.out.mono ?_
    rintro o w2 ⟨rfl, hs2, ho2⟩
    have S2 := Lib.hid hs2
    have ON2 := Lib.hid ho2
    have Z2 := Lib.hid (show w2.heap.size = w.heap.size from ho2.size)
    have CL := Lib.hid (clone_any none 0 0 [] w2 rfl (by omega) (fun _ => rfl) (.inl rfl))
    clear hs2 ho2
    go_wp2_with fail
    refine CL.out.mono ?_
    rintro o w3 ⟨v, rfl, ho3, hb3, hs3⟩
    have hb := HB.out
    have S3 := Lib.hid (S2.out.below hb3 (by have := Z2.out; omega) (by have := Z2.out; omega))
    have BB3 := Lib.hid ((ON2.out.bel.mono hb).trans (hb3.mono (by have := Z2.out; omega)))
    have EL3 := Lib.hid ((toEls ON2.out).below (by have := Z2.out; omega) hb3)
    have Z3 := Lib.hid (show w.heap.size ≤ w3.heap.size from by have := hb3.size; have := Z2.out; omega)
    clear ho3 hb3 hs3 hb
    have ERR := Lib.hid (err_gen B g _ _ w3 S3.out)
    go_wp2_with fail
    refine ERR.out.mono ?_
    rintro o w' ⟨rfl, rfl⟩
    go_wp2_with fail
    go_ret
    exact HF.out _ _ S3.out BB3.out EL3.out Z3.out
set_option maxHeartbeats 4000000 in
set_option maxRecDepth 100000 in
theorem data_few (B g : Nat) (p : Int) (k : Nat) (l : List Int) (w : World) (hB : B ≤ g) (h : Rdr w B g l) (hp : p ≠ 44) (hu : U8 l) (hk : l.getD 0 0 = k) (hl7 : 7 ≤ l.length) (hl : l.length < 7 + 8 * k) :
    Calls Try.prog 74 #[.pointer (some ⟨g, 0, none⟩), .int .i64 p] w (FailP w B g) := by
  obtain ⟨i0, hi0, hz0, hz1, hz2⟩ := info_parts info_u8
  have HI0 := Lib.hid hi0
  have hgl := h.lt
  have hk255 : k ≤ 255 := by have := hu.get 0; omega
  have RAW := Lib.hid (raw_any B g 7 l w hB h hl7)
  have RAW2 := Lib.hid (show ∀ V, St V B g (l.drop 7) 0 → Calls Try.prog 96 #[.pointer (some ⟨g, 0, none⟩), .int .i64 ((8 * k : Nat) : Int)] V fun o w' => o = .returned (.slice none 0 0) ∧ St w' B g [] 2 ∧ OnlyG g V w' from fun V hV => raw_bad B g (8 * k) (l.drop 7) 0 V hV (.inr (by rw [List.length_drop]; omega)) (by omega))
  have HL := Lib.hid (show (l.take 7).length = 7 from by rw [List.length_take]; omega)
  have HK := Lib.hid (show (l.take 7).getD 0 0 = k from by rw [← hk, List.getD_eq_getElem?_getD, List.getD_eq_getElem?_getD, List.getElem?_take, if_pos (by omega)])
  have HB := Lib.hid hB
  have t : (p == 44) = false := by simpa using hp
  have HF := Lib.hid (show ∀ v w', St w' B g [] 2 → Below B w w' → Els g w w' → w.heap.size ≤ w'.heap.size → FailP w B g (.returned v) w' from fun v w' h1 h2 h3 h4 => ⟨v, [], 2, rfl, h1, by omega, h2, h3, h4⟩)
  clear h hl hl7 hB hi0 hz0 hz1 hz2 hu hk hp
  go_enter Try.func74, Try.ntmps74
  go_wp2_with fail
  refine RAW.out.mono ?_
  rintro e w2 ⟨b, off, rfl, hbB, hli, hr2, ho2⟩
  have HR2 := Lib.hid hr2
  have SZ2 := Lib.hid (show w2.heap.size = w.heap.size from ho2.size)
  have ON2 := Lib.hid (Only.g ho2)
  have CL := Lib.hid (clone_any (some ⟨b, off, none⟩) 7 7 (l.take 7) w2 HL.out (by omega) (by intro h; cases h) (hli.row (by have := SZ2.out; have := HB.out; omega)))
  clear hli hr2 ho2
  go_wp2_with fail
  refine CL.out.mono ?_
  rintro o w3 ⟨v, rfl, ho3, hb3, hs3⟩
  obtain ⟨g3, c, rfl, o1, o2, o3, o4, o5, o6⟩ := own_form ho3 (by omega)
  rw [SZ2.out] at ho3 hb3 o1
  have OW := Lib.hid ho3
  have B3 := Lib.hid hb3
  have HR3 := Lib.hid (HR2.out.below hb3 (by have := HB.out; omega) hgl)
  have ERR := Lib.hid (err_gen B g _ _ w3 (Rdr.st HR3.out))
  have d0 : w3.cell? ⟨g3, 0, none⟩ = some (.int .u8 (k : Int)) := by
    rw [o5 0 (by omega), List.getElem?_map]
    have hk := HK.out
    rw [List.getD_eq_getElem?_getD] at hk
    have hl7 := HL.out
    rw [List.getElem?_eq_getElem (by omega)] at hk ⊢
    simpa using hk
  have wk : IntKind.i64.wrap (k : Int) = (k : Int) := IntWalk.i64_in _ (by omega)
  have wk8 : IntKind.i64.wrap (8 * (k : Int)) = 8 * (k : Int) := IntWalk.i64_in _ (by omega)
  clear ho3 hb3 hs3 o2 o3 o4 o5 o6 o1
  go_wp2_with fail
  refine ERR.out.mono ?_
  rintro o w' ⟨rfl, rfl⟩
  go_wp2_with fail
  refine (RAW2.out _ (Rdr.st HR3.out)).mono ?_
  rintro o w4 ⟨rfl, hs4, ho4⟩
  have ON4 := Lib.hid ho4
  have S4 := Lib.hid hs4
  have Z4 := Lib.hid (show w.heap.size ≤ w4.heap.size from by have := B3.out.size; have := SZ2.out; rw [ho4.size]; omega)
  have OW4 := Lib.hid (show w4.ownsRow w.heap.size 5 1 (.slice (some ⟨g3, 0, none⟩) 7 c) 7 ((l.take 7).map (.int .u8)) from own_els OW.out hgl (toEls ho4))
  clear hs4 ho4
  go_wp2_with (at_builtin; refine wpList_append_own_none rfl (.tmp 17) (.tmp 24) _ rfl w.heap.size 5 i0 1 Try.underlying22 HI0.out (.slice (some ⟨g3, 0, none⟩) 7 c) 7 ((l.take 7).map (.int .u8)) rfl OW4.out rfl ?_)
  go_ret
  have hB := HB.out
  refine HF.out _ _ S4.out (((ON2.out.bel.mono hB).trans (B3.out.mono (by omega))).trans (ON4.out.bel.mono hB)) ?_ Z4.out
  exact ((toEls ON2.out).below (Nat.le_refl _) B3.out).trans (by have := B3.out.size; have := SZ2.out; omega) (toEls ON4.out)
theorem begin_short (A : Option Addr) (n c : Nat) (w : World) (hn : n < 40) :
    Calls Try.prog 38 #[.slice A n c] w fun e w' => e = .returned (.int .i64 2) ∧ w = w' := by
  go_enter Try.func38, Try.ntmps38
  go_wp2
  go_ret
  exact ⟨rfl, rfl⟩
theorem begin_any (b off n c : Nat) (l : List Int) (w : World) (hl' : l.length = n) (hn : 40 ≤ n) (hb : b < w.heap.size) (hs : Lies w b off l) (hx : U8 l) :
    Calls Try.prog 38 #[.slice (some ⟨b, off, none⟩) n c] w fun e w' => e = .returned (.int .i64 (if l.getD 0 0 / 16 = 6 then 0 else 10)) ∧ w = w' := by
  have hx0 := hx.get 0
  have q0 : w.cell? ⟨b, off, none⟩ = some (.int .u8 (l.getD 0 0)) := hs 0 (by omega)
  have y0 : 0 < n := by omega
  clear hs hx hl'
  generalize l.getD 0 0 = y at *
  obtain ⟨z0, z1⟩ := hx0
  by_cases h : y / 16 = 6
  · rw [if_pos h]
    have t1 : (y / 16 != 6) = false := bneF h
    clear h
    go_enter Try.func38, Try.ntmps38
    go_wp2
    go_ret
    exact ⟨rfl, rfl⟩
  · rw [if_neg h]
    have t1 : (y / 16 != 6) = true := bneT h
    clear h
    go_enter Try.func38, Try.ntmps38
    go_wp2
    go_ret
    exact ⟨rfl, rfl⟩
end Go.Proofs.Ytndekicblbpkjaa.sixD
