/- Layer 4: bytes cut, the answer's words and its sum. -/
import Derived.Test.YtgikoljnmmnkkaaSumE
import Derived.Test.YtgikoljnmmnkkaaApp
namespace Go.Proofs.Ytgikoljnmmnkkaa.sumH
open Go.ChangeShapes Go.WideShapes Go.ChangeAt Go.RowKit
open Go.Proofs.Ytgikoljnmmnkkaa.base Go.Proofs.Ytgikoljnmmnkkaa.sumA Go.Proofs.Ytgikoljnmmnkkaa.sumB Go.Proofs.Ytgikoljnmmnkkaa.sumC Go.Proofs.Ytgikoljnmmnkkaa.sumE
set_option linter.unusedVariables false

/-- The word at a place. -/
def wd (l : List Int) (k : Nat) : Int := 256 * l.getD (2 * k) 0 + l.getD (2 * k + 1) 0
def wds (l : List Int) (k : Nat) : List Int := (List.range k).map (wd l)
theorem wds_snoc (l : List Int) (k : Nat) : wds l (k + 1) = wds l k ++ [wd l k] := by simp [wds, List.range_succ]
theorem wsum_step (l : List Int) (k : Nat) (h : 2 * k < l.length) : wsum (l.take (2 * (k + 1))) = wsum (l.take (2 * k)) + wd l k := by
  have e1 : l.take (2 * k + 1) = l.take (2 * k) ++ [l[2 * k]] := List.take_succ_eq_append_getElem h
  have h1 := wsum_snoc (l.take (2 * k)) l[2 * k]
  have ev : even (l.take (2 * k)) = true := by simp [even, List.length_take]; omega
  rw [← e1, ev] at h1
  have ev2 := even_snoc (l.take (2 * k)) l[2 * k]
  rw [← e1, ev] at ev2
  have g0 : l.getD (2 * k) 0 = l[2 * k] := by simp [List.getD_eq_getElem?_getD, List.getElem?_eq_getElem h]
  by_cases hl : 2 * k + 1 < l.length
  · have e2 : l.take (2 * (k + 1)) = l.take (2 * k + 1) ++ [l[2 * k + 1]] := List.take_succ_eq_append_getElem hl
    have h2 := wsum_snoc (l.take (2 * k + 1)) l[2 * k + 1]
    rw [← e2, ev2] at h2
    have g1 : l.getD (2 * k + 1) 0 = l[2 * k + 1] := by simp [List.getD_eq_getElem?_getD, List.getElem?_eq_getElem hl]
    unfold wd
    rw [h2, h1, g0, g1]
    simp
    omega
  · have e2 : l.take (2 * (k + 1)) = l.take (2 * k + 1) := by rw [List.take_of_length_le (by omega), List.take_of_length_le (by omega)]
    have g1 : l.getD (2 * k + 1) 0 = 0 := by simp [List.getD_eq_getElem?_getD, List.getElem?_eq_none (Nat.le_of_not_lt hl)]
    unfold wd
    rw [e2, h1, g0, g1]
    simp
theorem wd_bd (l : List Int) (h : ∀ x ∈ l, 0 ≤ x ∧ x ≤ 255) (k : Nat) : 0 ≤ wd l k ∧ wd l k ≤ 65535 := by
  have g : ∀ i, 0 ≤ l.getD i 0 ∧ l.getD i 0 ≤ 255 := by
    intro i
    rw [List.getD_eq_getElem?_getD]
    cases hi : l[i]? with
    | none => simp
    | some x => exact h x (List.mem_of_getElem? hi)
  have := g (2 * k); have := g (2 * k + 1)
  unfold wd; omega

theorem info_int : (Try.prog.info? 3).map (fun i => (i.zero, i.size, i.bytes)) = some (some (.int .i64 0), 1, 8) := by kernel_rfl

set_option maxRecDepth 100000 in
theorem refWords_any (A : Option Addr) (n c : Nat) (l : List Int) (w : World) (hl : l.length = n) (hn : n ≤ 1000000) (hr : Row w w.heap.size A (l.map (.int .u8))) (hb : ∀ x ∈ l, 0 ≤ x ∧ x ≤ 255) :
    Calls Try.prog 50 #[.slice A n c] w fun e w' => ∃ v, e = .returned v ∧ w'.ownsRow w.heap.size 3 1 v ((n + 1) / 2) ((wds l ((n + 1) / 2)).map (.int .i64)) ∧ Below w.heap.size w w' := by
  obtain ⟨i0, hi0, hz0, hz1, hz2⟩ := info_parts info_int
  have HI0 := Lib.hid hi0
  have HZ0 := Lib.hid hz0
  have HZ1 := Lib.hid hz1
  have HZ2 := Lib.hid hz2
  have HR := Lib.hid hr
  have HL := Lib.hid hl
  have HB := Lib.hid hb
  clear hi0 hz0 hz1 hz2 hr hl hb
  go_enter Try.func50, Try.ntmps50
  go_wp2_with fail
  go_loopw [3, 4, 5] (fun out i y wr => ∃ (k : Nat), k ≤ (n + 1) / 2 ∧ i = .int .i64 (2 * k : Nat) ∧ wr.ownsRow w.heap.size 3 1 out k ((wds l k).map (.int .i64)) ∧ Below w.heap.size w wr) (fun _ i _ _ => n + 1 - (intOf i).toNat)
  case atStart => exact ⟨0, by omega, rfl, World.ownsRow_nil _ _ _ _, Below.refl _ _⟩
  case round =>
    obtain ⟨k, hk, rfl, hown, hbel⟩ := hrel
    obtain ⟨A3, c3, rfl⟩ := own_slice hown
    have HOwn := Lib.hid hown
    have HBel := Lib.hid hbel
    have hbs := hbel.size
    by_cases hlt : 2 * k < n
    · have hkl : 2 * k < l.length := by rw [HL.out]; exact hlt
      have hrow := HR.out.below hbel
      obtain ⟨b, off, rfl, hbl, hc⟩ := hrow.at_ (by intro h; simp at h; rw [h] at hkl; simp at hkl)
      have hcell : wr.cell? ⟨b, off + 2 * k, none⟩ = some (.int .u8 l[2 * k]) := hc (2 * k) _ (by simp [hkl])
      have hx := HB.out l[2 * k] (List.getElem_mem hkl)
      have hsn := wds_snoc l k
      have HSN := Lib.hid hsn
      have g0 : l.getD (2 * k) 0 = l[2 * k] := by simp [List.getD_eq_getElem?_getD, List.getElem?_eq_getElem hkl]
      by_cases hl1 : 2 * k + 1 < n
      · have hkl1 : 2 * k + 1 < l.length := by rw [HL.out]; exact hl1
        have hcell1 : wr.cell? ⟨b, off + (2 * k + 1), none⟩ = some (.int .u8 l[2 * k + 1]) := hc (2 * k + 1) _ (by simp [hkl1])
        have hx1 := HB.out l[2 * k + 1] (List.getElem_mem hkl1)
        have g1 : l.getD (2 * k + 1) 0 = l[2 * k + 1] := by simp [List.getD_eq_getElem?_getD, List.getElem?_eq_getElem hkl1]
        have hw : wd l k = 256 * l[2 * k] + l[2 * k + 1] := by unfold wd; rw [g0, g1]
        have HW := Lib.hid hw
        clear hc hrow hsn g0 g1 hw hown hbel
        generalize l[2 * k] = x at *
        generalize l[2 * k + 1] = y1 at *
        obtain ⟨x0, x9⟩ := hx
        obtain ⟨y0, y9⟩ := hx1
        have q1 : IntKind.i64.wrap x = x := by rw [IntKind.wrap_i64]; omega
        have q2 : IntKind.i64.wrap y1 = y1 := by rw [IntKind.wrap_i64]; omega
        have q3 : IntKind.i64.wrap (256 * x) = 256 * x := by rw [IntKind.wrap_i64]; omega
        have q4 : IntKind.i64.wrap (256 * x + y1) = 256 * x + y1 := by rw [IntKind.wrap_i64]; omega
        go_wp2_with (at_builtin; refine wpList_append_own _ rfl (.tmp 31) (.tmp 33) _ rfl w.heap.size 3 i0 _ 1 8 Try.underlying80 HI0.out HZ0.out HZ1.out HZ2.out rfl (by omega) _ k _ rfl (HOwn.out.alloc _) ⟨wr.heap.size, 0, none⟩ 1 1 [.int .i64 (256 * x + y1)] rfl rfl (one_new _ _ _) (by simp [Value.oneCell']) (by unfold maxLen; omega) (by omega) (by simp; omega) ?_; intro v1 w1 hown1 hg1 _; have HO1 := Lib.hid hown1; have HG1 := Lib.hid hg1; clear hown1 hg1)
        go_roundw
        case rel =>
          refine ⟨k + 1, by omega, by go_num, ?_, below_grown (HBel.out.alloc hbs _) (HOwn.out.alloc _) (Nat.le_refl _) (by simp; omega) HG1.out⟩
          rw [HSN.out, List.map_append, HW.out]
          exact HO1.out
        case measure => simp [intOf]; omega
      · have hlast : 2 * k + 1 = n := by omega
        have g1 : l.getD (2 * k + 1) 0 = 0 := by rw [List.getD_eq_getElem?_getD, List.getElem?_eq_none (by rw [HL.out]; omega)]; rfl
        have hw : wd l k = 256 * l[2 * k] := by unfold wd; rw [g0, g1]; omega
        have HW := Lib.hid hw
        clear hc hrow hsn g0 g1 hw hown hbel hlast
        generalize l[2 * k] = x at *
        obtain ⟨x0, x9⟩ := hx
        have q1 : IntKind.i64.wrap x = x := by rw [IntKind.wrap_i64]; omega
        have q3 : IntKind.i64.wrap (256 * x) = 256 * x := by rw [IntKind.wrap_i64]; omega
        go_wp2_with (at_builtin; refine wpList_append_own _ rfl (.tmp 31) (.tmp 33) _ rfl w.heap.size 3 i0 _ 1 8 Try.underlying80 HI0.out HZ0.out HZ1.out HZ2.out rfl (by omega) _ k _ rfl (HOwn.out.alloc _) ⟨wr.heap.size, 0, none⟩ 1 1 [.int .i64 (256 * x)] rfl rfl (one_new _ _ _) (by simp [Value.oneCell']) (by unfold maxLen; omega) (by omega) (by simp; omega) ?_; intro v1 w1 hown1 hg1 _; have HO1 := Lib.hid hown1; have HG1 := Lib.hid hg1; clear hown1 hg1)
        go_roundw
        case rel =>
          refine ⟨k + 1, by omega, by go_num, ?_, below_grown (HBel.out.alloc hbs _) (HOwn.out.alloc _) (Nat.le_refl _) (by simp; omega) HG1.out⟩
          rw [HSN.out, List.map_append, HW.out]
          exact HO1.out
        case measure => simp [intOf]; omega
    · have hkn : k = (n + 1) / 2 := by omega
      have HK := Lib.hid hkn
      clear hown hbel hkn
      go_wp2
      go_ret
      exact ⟨_, rfl, by have e := HK.out; rw [← e]; exact HOwn.out, HBel.out⟩

set_option maxRecDepth 100000 in
theorem refOf_any (A : Option Addr) (n c : Nat) (l : List Int) (w : World) (hl : l.length = n) (hn : n ≤ 1000000) (hr : Row w w.heap.size A (l.map (.int .u8))) (hb : ∀ x ∈ l, 0 ≤ x ∧ x ≤ 255) :
    Calls Try.prog 15 #[.slice A n c] w fun e w' => e = .returned (.int .i64 (fo (wsum l))) ∧ Below w.heap.size w w' := by
  have HR := Lib.hid (refWords_any A n c l w hl hn hr hb)
  have hbd := wsum_bd l hb
  have HL := Lib.hid hl
  have HB := Lib.hid hb
  clear hr hl hb
  have hw9 : wsum l < 4611686018427387904 := by have := hbd.2; rw [HL.out] at this; omega
  have hw0 := hbd.1
  clear hbd
  go_enter Try.func15, Try.ntmps15
  go_wp2_with fail
  refine HR.out.mono ?_
  rintro e w1 ⟨v, rfl, hown, hbel⟩
  obtain ⟨A3, c3, rfl⟩ := own_slice hown
  have hrow := own_row hown
  have HROW := Lib.hid hrow
  have HBEL := Lib.hid hbel
  clear hown hbel hrow
  go_wp2_with fail
  go_loop [3, 5] (fun s i => ∃ k : Nat, k ≤ (n + 1) / 2 ∧ i = .int .i64 k ∧ s = .int .i64 (wsum (l.take (2 * k))) ∧ 0 ≤ wsum (l.take (2 * k)) ∧ wsum (l.take (2 * k)) ≤ k * 65535) (fun _ i => (n + 1) / 2 - (intOf i).toNat)
  case atStart => exact ⟨0, by omega, rfl, by simp [wsum], by simp [wsum], by simp [wsum]⟩
  case round =>
    obtain ⟨k, hk, rfl, rfl, s0, s9⟩ := hrel
    by_cases hlt : k < (n + 1) / 2
    · obtain ⟨g, off, rfl, hbl, hc⟩ := HROW.out.at_ (by intro h; have h2 := congrArg List.length h; rw [List.length_map] at h2; simp only [wds, List.length_map, List.length_range, List.length_nil] at h2; omega)
      have hcell : w1.cell? ⟨g, off + k, none⟩ = some (.int .i64 (wd l k)) := hc k _ (by simp [wds, hlt])
      have hst := wsum_step l k (by rw [HL.out]; omega)
      have hwb := wd_bd l HB.out k
      have HST := Lib.hid hst
      clear hc hst
      generalize wd l k = x at *
      generalize wsum (l.take (2 * k)) = s at *
      obtain ⟨x0, x9⟩ := hwb
      have q1 : IntKind.i64.wrap (s + x) = s + x := by rw [IntKind.wrap_i64]; omega
      go_wp2_with fail
      go_round
      case rel => exact ⟨k + 1, by omega, by go_num, by rw [HST.out], by rw [HST.out]; omega, by rw [HST.out]; omega⟩
      case measure => simp [intOf]; omega
    · have hkn : l.take (2 * k) = l := List.take_of_length_le (by rw [HL.out]; omega)
      rw [hkn]
      clear hkn
      go_wp2_with (go_at_call 51; refine (refFold_any _ (by omega) (by omega) _).mono ?_; rintro e w' ⟨rfl, rfl⟩)
      go_ret
      exact ⟨rfl, HBEL.out⟩
end Go.Proofs.Ytgikoljnmmnkkaa.sumH
