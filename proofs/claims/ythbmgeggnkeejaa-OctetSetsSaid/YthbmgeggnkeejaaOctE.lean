/- Layer 7: the law on numbers put. -/
import Derived.Test.YthbmgeggnkeejaaOctD
import Derived.Deep.QuietTactic
import Derived.BigQuiet
namespace Go.Proofs.Ythbmgeggnkeejaa.octE
open Go.ChangeShapes Go.WideShapes Go.ChangeAt Go.RowKit
open Go.Proofs.Ythbmgeggnkeejaa.base Go.Proofs.Ythbmgeggnkeejaa.octA Go.Proofs.Ythbmgeggnkeejaa.octB Go.Proofs.Ythbmgeggnkeejaa.octC Go.Proofs.Ythbmgeggnkeejaa.octD
set_option linter.unusedVariables false

theorem getD_app (a b : List Int) (i : Nat) (h : i < a.length) : (a ++ b).getD i 0 = a.getD i 0 := by
  rw [List.getD_eq_getElem?_getD, List.getElem?_append_left h, ← List.getD_eq_getElem?_getD]
theorem getD_app2 (a b : List Int) (i : Nat) : (a ++ b).getD (a.length + i) 0 = b.getD i 0 := by
  rw [List.getD_eq_getElem?_getD, List.getElem?_append_right (by omega), Nat.add_sub_cancel_left, ← List.getD_eq_getElem?_getD]
theorem conv_zero (w : World) (A : Option Addr) (c : Nat) : (convert 22 9 (.slice A 0 c)).run Try.prog w = .ok (.string (strOfNums [])) w := by
  rw [run_convert_bytes_string w 22 9 5 _ 0 c Try.underlying22 Try.underlying5 Try.underlying9]
  cases A <;> simp [Conv.bytesToString, loadCells]
  all_goals rfl
theorem conv_any {w : World} {B : Nat} {A : Option Addr} {n c : Nat} {l : List Int} (h : Row w B A (l.map (.int .u8))) (hl : l.length = n) :
    (convert 22 9 (.slice A n c)).run Try.prog w = .ok (.string (strOfNums l)) w := by
  rcases Nat.eq_zero_or_pos n with h0 | h0
  · have : l = [] := List.eq_nil_of_length_eq_zero (by omega)
    subst this; subst h0
    exact conv_zero w A c
  · obtain ⟨b, off, rfl, _⟩ := slice_from h 0 (by omega)
    exact conv_row h hl
theorem own_cases {w : World} {base : Nat} {e : TypeId} {v : Value} {n : Nat} {xs : List Value} (h : w.ownsRow base e 1 v n xs) :
    (v = .slice none 0 0 ∧ n = 0) ∨ ∃ g cap, v = .slice (some ⟨g, 0, none⟩) n cap ∧ n ≤ cap ∧ cap ≤ maxLen := by
  rcases h.2 with ⟨rfl, h0⟩ | ⟨g, cap, cur, rfl, hb, hg, hnc, hm, hsz, htake⟩
  · exact .inl ⟨rfl, h0⟩
  · exact .inr ⟨g, cap, rfl, hnc, hm⟩
theorem allb_in (k : Nat) (l : List Int) : ∀ x ∈ allb k l, 0 ≤ x ∧ x ≤ 255 := by
  intro x hx
  simp only [allb, List.mem_flatMap, pb, List.mem_map] at hx
  obtain ⟨n, _, t, _, rfl⟩ := hx
  exact byteZ_in n _
theorem allb_cons (k : Nat) (n : Int) (l : List Int) : allb k (n :: l) = pb n k k ++ allb k l := by simp [allb]
theorem pb_get (n : Int) (k j : Nat) (h : j < k) : (pb n k k).getD j 0 = byteZ n (k - 1 - j) := by simp [pb, List.getD, h]
theorem allb_get (k : Nat) (l : List Int) (i j : Nat) (hi : i < l.length) (hj : j < k) : (allb k l).getD (k * i + j) 0 = byteZ (l.getD i 0) (k - 1 - j) := by
  induction l generalizing i with
  | nil => simp at hi
  | cons n l ih =>
    rw [allb_cons]
    cases i with
    | zero =>
      rw [Nat.mul_zero, Nat.zero_add, getD_app _ _ _ (by rw [pb_len]; exact hj), pb_get n k j hj]
      rfl
    | succ i =>
      have e : k * (i + 1) + j = k + (k * i + j) := by rw [Nat.mul_succ]; omega
      have e9 := getD_app2 (pb n k k) (allb k l) (k * i + j)
      rw [pb_len] at e9
      rw [e, e9, ih i (by simpa using hi)]
      rfl
/-- A number, put in k bytes, is told again. -/
theorem atN_put (bs : List Int) (k : Nat) (l : List Int) (i x : Nat) (hi : i < l.length) (hx : l.getD i 0 = (x : Int)) (j : Nat) (hj : j ≤ k) :
    atN (bs ++ allb k l) (bs.length + k * i) j = ((x / 256 ^ (k - j) % 256 ^ j : Nat) : Int) := by
  induction j with
  | zero => simp [atN, Nat.mod_one]
  | succ j ih =>
    rw [atN, ih (by omega)]
    have e1 : bs.length + k * i + j = bs.length + (k * i + j) := by omega
    rw [e1, getD_app2, allb_get k l i j hi (by omega), hx]
    obtain ⟨q, hq⟩ : ∃ q, k = j + q + 1 := ⟨k - j - 1, by omega⟩
    have a1 : k - j = q + 1 := by omega
    have a2 : k - (j + 1) = q := by omega
    have a3 : k - 1 - j = q := by omega
    rw [a1, a2, a3]
    have hb : byteZ (x : Int) q = ((x / 256 ^ q % 256 : Nat) : Int) := by
      unfold byteZ
      have e : (2 : Int) ^ (8 * q) = ((256 ^ q : Nat) : Int) := by rw [Int.pow_mul, Int.natCast_pow]; rfl
      rw [e, Int.natCast_emod, Int.natCast_ediv]; rfl
    rw [hb, Nat.pow_succ, ← Nat.div_div_eq_div_mul]
    generalize x / 256 ^ q = y
    have hm := Nat.mod_mul (x := y) (a := 256) (b := 256 ^ j)
    rw [Nat.pow_succ, Nat.mul_comm (256 ^ j) 256, hm]
    generalize y / 256 % 256 ^ j = u
    omega
theorem awake_any (w : World) :
    Calls Try.prog 19 #[] w fun e w' => e = .returned (.bool true) ∧ Below w.heap.size w w' := by
  have hs2 : hs 2 = 2 := by decide
  have hpb : pb 258 2 2 = [1, 2] := by decide
  have hstr : ((strOfNums [1, 2]).toList == [1, 2]) = true := by rw [ByteArray.toList_eq]; decide
  have HP := Lib.hid (put_any (.slice none 0 0) 0 [] 258 2 w.heap.size w.heap.size w w (World.ownsRow_nil _ _ _ _) (Nat.le_refl _) (by omega) (Below.refl _ _) (Nat.le_refl _) (by omega) (by omega))
  rw [hs2, hpb] at HP
  clear hs2 hpb
  go_enter Try.func19, Try.ntmps19
  go_wp2_with fail
  refine HP.out.mono ?_
  rintro e w1 ⟨v, rfl, hown, hbel, _⟩
  obtain ⟨g, cap, rfl, _, hg, _, _, hc, _⟩ := own_form hown (by omega)
  have hrow := own_row hown
  have hcv := conv_row (c := cap) (n := 0 + 2) (l := [1, 2]) hrow rfl
  have HB := Lib.hid hbel
  clear hown hc hrow hbel
  go_wp2_with fail
  go_ret
  exact ⟨rfl, HB.out⟩
set_option maxRecDepth 100000 in
set_option maxHeartbeats 2000000 in
theorem putsSmall (v1 : Value) (A1 : Option Addr) (n c1 : Nat) (l1 : List Int) (s : Int) (A2 : Option Addr) (m c2 : Nat) (l : List Int) (w : World)
    (h1 : l1.length = n) (k1 : n ≤ 100) (z1 : A1 = none → c1 = 0) (r1 : Row w w.heap.size A1 (l1.map (.int .u8))) (b1 : ∀ x ∈ l1, 0 ≤ x ∧ x ≤ 255)
    (C1 : Hid (∀ w : World, Calls Try.prog 15 #[v1] w fun e w' => e = .returned (.slice A1 n c1) ∧ w = w'))
    (hl2 : l.length = m) (hm : m ≤ 20) (hmc : m ≤ c2) (hcm : c2 ≤ 9223372036854775807) (r2 : Row w w.heap.size A2 (l.map (.int .u64))) (hw : ∀ x ∈ l, 0 ≤ x ∧ x < 18446744073709551616) :
    Calls Try.prog 3 #[v1, .int .i64 s, .slice A2 m c2] w fun e w' => e = .returned (.bool true) ∧ Below w.heap.size w w' := by
  obtain ⟨i0, hi0, hz0, hz1, hz2⟩ := info_parts info_u8
  have HI0 := Lib.hid hi0
  have HZ0 := Lib.hid hz0
  have HZ1 := Lib.hid hz1
  have HZ2 := Lib.hid hz2
  have Z1 := Lib.hid z1
  have R1 := Lib.hid r1
  have B1 := Lib.hid b1
  have L1 := Lib.hid h1
  have RL := Lib.hid r2
  have LL := Lib.hid hl2
  have HW := Lib.hid hw
  have oneC : ∀ u ∈ l1.map (Value.int .u8), u.oneCell' = true := by
    intro u hu
    rw [List.mem_map] at hu
    obtain ⟨x, _, rfl⟩ := hu
    rfl
  have ONE := Lib.hid oneC
  have hk8 := hs_le s
  have HH := Lib.hid (fun w => lawheld_any s w)
  have hkm : hs s * m ≤ 8 * m := Nat.mul_le_mul_right _ hk8
  have hkm2 : hs s * m ≤ 160 := by omega
  have HLaw := Lib.hid (fun (v : Value) (a w : World) (hown : w.ownsRow a.heap.size 5 1 v (0 + n) ([] ++ l1.map (.int .u8))) (hbase : a.heap.size ≤ w.heap.size) (hbel : Below a.heap.size a w) (hr : Row a a.heap.size A2 (l.map (.int .u64))) => all_any v (0 + n) _ s A2 m c2 l a.heap.size a.heap.size a w hown hbase (by omega) hbel (Nat.le_refl _) hl2 hr hw)
  clear hi0 hz0 hz1 hz2 z1 r1 b1 h1 r2 hl2 hw oneC hkm
  have hd0 : decide ((20 : Int) < (m : Int)) = false := by simp; omega
  go_enter Try.func3, Try.ntmps3
  go_wp2_with fail
  refine (C1.out _).mono ?_
  rintro e w' ⟨rfl, rfl⟩
  go_wp2_with fail
  refine (HH.out _).mono ?_
  rintro e w' ⟨rfl, rfl⟩
  go_wp2_with (at_builtin; refine wpList_append_row rfl (.tmp 20) (.tmp 21) _ rfl w.heap.size 5 i0 _ 1 Try.underlying22 HI0.out HZ0.out HZ1.out HZ2.out rfl (.slice (some ⟨w.heap.size, 0, none⟩) 0 0) 0 [] rfl (World.ownsRow_lit w #[] 0 (Nat.le_refl _) (by unfold maxLen; omega) rfl) A1 n c1 w.heap.size (l1.map (.int .u8)) rfl Z1.out (by simp; exact L1.out) (R1.out.below ((Below.refl _ _).alloc (Nat.le_refl _) _)) ONE.out (by unfold maxLen; omega) (by omega) (by simp) ?_; intro va wa owna ga; have HOa := Lib.hid owna; have HBa := Lib.hid (below_grown ((Below.refl _ _).alloc (Nat.le_refl _) _) (World.ownsRow_lit w #[] 0 (Nat.le_refl _) (by unfold maxLen; omega) rfl) (Nat.le_refl _) (by simp) ga); clear owna ga)
  have hsa := HBa.out.size
  refine (HLaw.out va w wa HOa.out hsa HBa.out RL.out).mono ?_
  rintro e w3 ⟨x, rfl, hownx, hbel2, hbsx⟩
  have hrowx : ∀ A3 c3, x = .slice A3 (0 + n + hs s * m) c3 → Row w3 w3.heap.size A3 ((l1 ++ allb (hs s) l).map (.int .u8)) := by
    intro A3 c3 hx
    subst hx
    have := own_row hownx
    rw [List.nil_append, ← List.map_append] at this
    exact this
  have HRX := Lib.hid hrowx
  have hcs := own_cases hownx
  have hlen : (l1 ++ allb (hs s) l).length = n + hs s * m := by rw [List.length_append, allb_len, L1.out, LL.out]
  have HLen := Lib.hid hlen
  have hby : ∀ y ∈ l1 ++ allb (hs s) l, 0 ≤ y ∧ y ≤ 255 := by
    intro y hy
    rcases List.mem_append.1 hy with h | h
    · exact B1.out y h
    · exact allb_in _ _ y h
  have HBy := Lib.hid hby
  have hr13 := R1.out.below hbel2
  have cv1 := fun (j : Nat) => conv_any (c := c1) (hr13.below (below_drewN (Below.refl _ w3) j)) L1.out
  have HFin := Lib.hid hbel2
  have hput := fun (i x : Nat) (hi : i < l.length) (hx : l.getD i 0 = (x : Int)) => atN_put l1 (hs s) l i x hi hx (hs s) (Nat.le_refl _)
  have HPut := Lib.hid hput
  have HL2 := Lib.hid (RL.out.below hbel2)
  clear hownx hbel2 hrowx hlen hby hr13 hput hsa
  generalize hk : hs s = k at *
  have HK := Lib.hid hk
  clear hk
  have e1 : IntKind.i64.wrap ((k : Int) * (m : Int)) = ((k * m : Nat) : Int) := by rw [show (k : Int) * (m : Int) = ((k * m : Nat) : Int) by rw [Int.natCast_mul]; try rfl]; exact IntWalk.i64_in _ (by omega)
  have e2 : IntKind.i64.wrap ((n : Int) + ((k * m : Nat) : Int)) = ((n + k * m : Nat) : Int) := by rw [show (n : Int) + ((k * m : Nat) : Int) = ((n + k * m : Nat) : Int) by omega]; exact IntWalk.i64_in _ (by omega)
  rcases hcs with ⟨rfl, htot⟩ | ⟨g, c3, rfl, hc3, hc3m⟩
  · have hz1 : n = 0 := by omega
    have hz2 : k * m = 0 := by omega
    subst hz1
    have hl0 : l1 = [] := List.eq_nil_of_length_eq_zero L1.out
    have hx0 : Row w3 w3.heap.size none ((l1 ++ allb k l).map (.int .u8)) := .inl (by rw [List.map_eq_nil_iff]; exact List.eq_nil_of_length_eq_zero (by rw [HLen.out]; omega))
    have HX0 := Lib.hid hx0
    subst hl0
    have cv2 := fun (j : Nat) => conv_zero (w3.drewN j) none 0
    have q3 : ((strOfNums []).toList != (strOfNums []).toList) = false := by simp
    rw [hz2] at e1
    rw [hz2] at HLen
    have e6 : IntKind.i64.wrap ((0 : Int) + 0) = 0 := by decide
    clear hx0 HRX e2 htot
    go_wp2_with fail
    go_quiet (fail)
    go_wp2_with fail
    go_loop [9] (fun i => ∃ j : Nat, j ≤ m ∧ i = .int .i64 j) (fun i => m - (intOf i).toNat)
    case atStart => exact ⟨0, by omega, rfl⟩
    case round =>
      obtain ⟨i, hi, rfl⟩ := hrel
      by_cases hlt : i < m
      · have hkl : i < l.length := by rw [LL.out]; exact hlt
        obtain ⟨b3, off3, hA3, _, hcc⟩ := HL2.out.at_ (by intro h; simp at h; rw [h] at hkl; simp at hkl)
        obtain rfl := hA3
        have hcell : w3.cell? ⟨b3, off3 + i, none⟩ = some (.int .u64 (l[i])) := hcc i _ (by simp [hkl])
        have hgd : l.getD i 0 = l[i] := by simp [List.getD_eq_getElem?_getD, List.getElem?_eq_getElem hkl]
        have hx := HW.out l[i] (List.getElem_mem hkl)
        have hki : k * i ≤ 8 * i := Nat.mul_le_mul_right _ hk8
        have hki2 : k * i ≤ 160 := by omega
        clear hcc hki
        generalize l[i] = z at *
        obtain ⟨x, rfl⟩ := Int.eq_ofNat_of_zero_le hx.1
        have hx2 : x < 18446744073709551616 := by omega
        have hpt := HPut.out i x hkl hgd
        rw [L1.out, Nat.sub_self, Nat.pow_zero, Nat.div_one] at hpt
        have hat : atZ ([] ++ allb k l) ((0 + k * i : Nat) : Int) s = ((x % 256 ^ k : Nat) : Int) := by
          unfold atZ
          rw [if_neg (by omega), Int.toNat_natCast, HK.out]
          exact hpt
        have e3 : IntKind.i64.wrap ((k : Int) * (i : Int)) = ((k * i : Nat) : Int) := by rw [← Int.natCast_mul]; exact IntWalk.i64_in _ (by omega)
        have e4 : IntKind.i64.wrap ((0 : Int) + ((k * i : Nat) : Int)) = ((0 + k * i : Nat) : Int) := by rw [show (0 : Int) + ((k * i : Nat) : Int) = ((0 + k * i : Nat) : Int) by omega]; exact IntWalk.i64_in _ (by omega)
        have HAT := Lib.hid hat
        have HX2 := Lib.hid hx2
        clear hpt hat hx hx2 hgd
        by_cases hk7 : k < 8
        · have hp7 : 256 ^ k ≤ 256 ^ 7 := Nat.pow_le_pow_right (by omega) (by omega)
          have hpe : (2 : Int) ^ (8 * k) = ((256 ^ k : Nat) : Int) := by rw [Int.pow_mul, Int.natCast_pow]; rfl
          have hp0 : 0 < 256 ^ k := Nat.pow_pos (by omega)
          have e5 : IntKind.u64.wrap ((2 : Int) ^ (8 * k)) = ((256 ^ k : Nat) : Int) := by rw [hpe, IntKind.wrap_u64]; omega
          rw [show ((x % 256 ^ k : Nat) : Int) = (x : Int) % ((256 ^ k : Nat) : Int) from Int.natCast_emod _ _] at HAT
          clear hp7 hpe
          generalize hP : 256 ^ k = P at *
          have o1 : ((x : Int) % (P : Int) != (x : Int) % (P : Int)) = false := by simp
          clear hP
          have HQ := Lib.hid (fun (f : Int) (hf : f = ((0 + k * i : Nat) : Int)) => (congrArg (fun z => atZ ([] ++ allb k l) z s) hf).trans HAT.out)
          go_wp2_with fail
          refine (at_any none 0 0 ([] ++ allb k l) _ s _ HLen.out (by omega) (by omega) (by omega) (by intro h; first | rfl | cases h) (HX0.out.below (below_drewN (Below.refl _ w3) _) |>.more (by simp)) HBy.out (by omega)).mono ?_
          rintro e w' ⟨rfl, rfl⟩
          rw [HQ.out _ (by first | rfl | (simp; done) | (push_cast; rfl) | omega)]
          go_wp2_with fail
          go_round
          case rel => exact ⟨i + 1, by omega, by go_num⟩
          case measure => simp [intOf]; omega
        · have hk9 : k = 8 := by omega
          have hm8 : x % 256 ^ k = x := by rw [hk9]; exact Nat.mod_eq_of_lt HX2.out
          rw [hm8] at HAT
          have o1 : ((x : Int) != (x : Int)) = false := by simp
          have hk10 : decide ((k : Int) < 8) = false := by simp; omega
          clear hk9 hm8
          have HQ := Lib.hid (fun (f : Int) (hf : f = ((0 + k * i : Nat) : Int)) => (congrArg (fun z => atZ ([] ++ allb k l) z s) hf).trans HAT.out)
          go_wp2_with fail
          refine (at_any none 0 0 ([] ++ allb k l) _ s _ HLen.out (by omega) (by omega) (by omega) (by intro h; first | rfl | cases h) (HX0.out.below (below_drewN (Below.refl _ w3) _) |>.more (by simp)) HBy.out (by omega)).mono ?_
          rintro e w' ⟨rfl, rfl⟩
          rw [HQ.out _ (by first | rfl | (simp; done) | (push_cast; rfl) | omega)]
          go_wp2_with fail
          go_round
          case rel => exact ⟨i + 1, by omega, by go_num⟩
          case measure => simp [intOf]; omega
      · go_wp2_with fail
        refine (awake_any _).mono ?_
        rintro e w4 ⟨rfl, hb4⟩
        go_wp2_with fail
        go_ret
        exact ⟨rfl, bel_call (below_drewN HFin.out _) hb4⟩
  · unfold maxLen at hc3m
    have hx0 := HRX.out (some ⟨g, 0, none⟩) c3 rfl
    have hxr := hx0.take n
    rw [← List.map_take, List.take_left' L1.out] at hxr
    have cv2 := fun (j : Nat) => conv_any (n := n) (c := c3) (hxr.below (below_drewN (Below.refl _ w3) j)) L1.out
    have HX0 := Lib.hid hx0
    have f1 : (0 + n + k * m : Nat) = n + k * m := by omega
    rw [f1] at hc3 ⊢
    have q3 : ((strOfNums l1).toList != (strOfNums l1).toList) = false := by simp
    have q5 : n ≤ c3 := by omega
    clear hx0 hxr f1 HRX
    go_wp2_with fail
    go_quiet (fail)
    go_wp2_with fail
    go_loop [9] (fun i => ∃ j : Nat, j ≤ m ∧ i = .int .i64 j) (fun i => m - (intOf i).toNat)
    case atStart => exact ⟨0, by omega, rfl⟩
    case round =>
      obtain ⟨i, hi, rfl⟩ := hrel
      by_cases hlt : i < m
      · have hkl : i < l.length := by rw [LL.out]; exact hlt
        obtain ⟨b3, off3, hA3, _, hcc⟩ := HL2.out.at_ (by intro h; simp at h; rw [h] at hkl; simp at hkl)
        obtain rfl := hA3
        have hcell : w3.cell? ⟨b3, off3 + i, none⟩ = some (.int .u64 (l[i])) := hcc i _ (by simp [hkl])
        have hgd : l.getD i 0 = l[i] := by simp [List.getD_eq_getElem?_getD, List.getElem?_eq_getElem hkl]
        have hx := HW.out l[i] (List.getElem_mem hkl)
        have hki : k * i ≤ 8 * i := Nat.mul_le_mul_right _ hk8
        have hki2 : k * i ≤ 160 := by omega
        clear hcc hki
        generalize l[i] = z at *
        obtain ⟨x, rfl⟩ := Int.eq_ofNat_of_zero_le hx.1
        have hx2 : x < 18446744073709551616 := by omega
        have hpt := HPut.out i x hkl hgd
        rw [L1.out, Nat.sub_self, Nat.pow_zero, Nat.div_one] at hpt
        have hat : atZ (l1 ++ allb k l) ((n + k * i : Nat) : Int) s = ((x % 256 ^ k : Nat) : Int) := by
          unfold atZ
          rw [if_neg (by omega), Int.toNat_natCast, HK.out]
          exact hpt
        have e3 : IntKind.i64.wrap ((k : Int) * (i : Int)) = ((k * i : Nat) : Int) := by rw [← Int.natCast_mul]; exact IntWalk.i64_in _ (by omega)
        have e4 : IntKind.i64.wrap ((n : Int) + ((k * i : Nat) : Int)) = ((n + k * i : Nat) : Int) := by rw [show (n : Int) + ((k * i : Nat) : Int) = ((n + k * i : Nat) : Int) by omega]; exact IntWalk.i64_in _ (by omega)
        have HAT := Lib.hid hat
        have HX2 := Lib.hid hx2
        clear hpt hat hx hx2 hgd
        by_cases hk7 : k < 8
        · have hp7 : 256 ^ k ≤ 256 ^ 7 := Nat.pow_le_pow_right (by omega) (by omega)
          have hpe : (2 : Int) ^ (8 * k) = ((256 ^ k : Nat) : Int) := by rw [Int.pow_mul, Int.natCast_pow]; rfl
          have hp0 : 0 < 256 ^ k := Nat.pow_pos (by omega)
          have e5 : IntKind.u64.wrap ((2 : Int) ^ (8 * k)) = ((256 ^ k : Nat) : Int) := by rw [hpe, IntKind.wrap_u64]; omega
          rw [show ((x % 256 ^ k : Nat) : Int) = (x : Int) % ((256 ^ k : Nat) : Int) from Int.natCast_emod _ _] at HAT
          clear hp7 hpe
          generalize hP : 256 ^ k = P at *
          have o1 : ((x : Int) % (P : Int) != (x : Int) % (P : Int)) = false := by simp
          clear hP
          have HQ := Lib.hid (fun (f : Int) (hf : f = ((n + k * i : Nat) : Int)) => (congrArg (fun z => atZ (l1 ++ allb k l) z s) hf).trans HAT.out)
          go_wp2_with fail
          refine (at_any (some ⟨g, 0, none⟩) (n + k * m) c3 (l1 ++ allb k l) _ s _ HLen.out (by omega) (by omega) (by omega) (by intro h; first | rfl | cases h) (HX0.out.below (below_drewN (Below.refl _ w3) _) |>.more (by simp)) HBy.out (by omega)).mono ?_
          rintro e w' ⟨rfl, rfl⟩
          rw [HQ.out _ (by first | rfl | (simp; done) | (push_cast; rfl) | omega)]
          go_wp2_with fail
          go_round
          case rel => exact ⟨i + 1, by omega, by go_num⟩
          case measure => simp [intOf]; omega
        · have hk9 : k = 8 := by omega
          have hm8 : x % 256 ^ k = x := by rw [hk9]; exact Nat.mod_eq_of_lt HX2.out
          rw [hm8] at HAT
          have o1 : ((x : Int) != (x : Int)) = false := by simp
          have hk10 : decide ((k : Int) < 8) = false := by simp; omega
          clear hk9 hm8
          have HQ := Lib.hid (fun (f : Int) (hf : f = ((n + k * i : Nat) : Int)) => (congrArg (fun z => atZ (l1 ++ allb k l) z s) hf).trans HAT.out)
          go_wp2_with fail
          refine (at_any (some ⟨g, 0, none⟩) (n + k * m) c3 (l1 ++ allb k l) _ s _ HLen.out (by omega) (by omega) (by omega) (by intro h; first | rfl | cases h) (HX0.out.below (below_drewN (Below.refl _ w3) _) |>.more (by simp)) HBy.out (by omega)).mono ?_
          rintro e w' ⟨rfl, rfl⟩
          rw [HQ.out _ (by first | rfl | (simp; done) | (push_cast; rfl) | omega)]
          go_wp2_with fail
          go_round
          case rel => exact ⟨i + 1, by omega, by go_num⟩
          case measure => simp [intOf]; omega
      · go_wp2_with fail
        refine (awake_any _).mono ?_
        rintro e w4 ⟨rfl, hb4⟩
        go_wp2_with fail
        go_ret
        exact ⟨rfl, bel_call (below_drewN HFin.out _) hb4⟩
set_option maxRecDepth 100000 in
set_option maxHeartbeats 2000000 in
theorem putsBig (v1 : Value) (A1 : Option Addr) (n c1 : Nat) (l1 : List Int) (s : Int) (b2 off2 m0 c2 : Nat) (l : List Int) (w : World)
    (h1 : l1.length = n) (k1 : n ≤ 100) (z1 : A1 = none → c1 = 0) (r1 : Row w w.heap.size A1 (l1.map (.int .u8))) (b1 : ∀ x ∈ l1, 0 ≤ x ∧ x ≤ 255)
    (C1 : Hid (∀ w : World, Calls Try.prog 15 #[v1] w fun e w' => e = .returned (.slice A1 n c1) ∧ w = w'))
    (hl2 : l.length = 20) (hm0 : 20 < m0) (hmc : m0 ≤ c2) (hcm : c2 ≤ 9223372036854775807) (r2 : Row w w.heap.size (some ⟨b2, off2, none⟩) (l.map (.int .u64))) (hw : ∀ x ∈ l, 0 ≤ x ∧ x < 18446744073709551616) :
    Calls Try.prog 3 #[v1, .int .i64 s, .slice (some ⟨b2, off2, none⟩) m0 c2] w fun e w' => e = .returned (.bool true) ∧ Below w.heap.size w w' := by
  obtain ⟨i0, hi0, hz0, hz1, hz2⟩ := info_parts info_u8
  have HI0 := Lib.hid hi0
  have HZ0 := Lib.hid hz0
  have HZ1 := Lib.hid hz1
  have HZ2 := Lib.hid hz2
  have Z1 := Lib.hid z1
  have R1 := Lib.hid r1
  have B1 := Lib.hid b1
  have L1 := Lib.hid h1
  have RL := Lib.hid r2
  have LL := Lib.hid hl2
  have HW := Lib.hid hw
  have oneC : ∀ u ∈ l1.map (Value.int .u8), u.oneCell' = true := by
    intro u hu
    rw [List.mem_map] at hu
    obtain ⟨x, _, rfl⟩ := hu
    rfl
  have ONE := Lib.hid oneC
  have hk8 := hs_le s
  have HH := Lib.hid (fun w => lawheld_any s w)
  have hkm : hs s * 20 ≤ 8 * 20 := Nat.mul_le_mul_right _ hk8
  have hkm2 : hs s * 20 ≤ 160 := by omega
  have HLaw := Lib.hid (fun (v : Value) (a w : World) (hown : w.ownsRow a.heap.size 5 1 v (0 + n) ([] ++ l1.map (.int .u8))) (hbase : a.heap.size ≤ w.heap.size) (hbel : Below a.heap.size a w) (hr : Row a a.heap.size (some ⟨b2, off2, none⟩) (l.map (.int .u64))) => all_any v (0 + n) _ s (some ⟨b2, off2, none⟩) 20 c2 l a.heap.size a.heap.size a w hown hbase (by omega) hbel (Nat.le_refl _) hl2 hr hw)
  clear hi0 hz0 hz1 hz2 z1 r1 b1 h1 r2 hl2 hw oneC hkm
  have hd0 : decide ((20 : Int) < (m0 : Int)) = true := by simp; omega
  go_enter Try.func3, Try.ntmps3
  go_wp2_with fail
  refine (C1.out _).mono ?_
  rintro e w' ⟨rfl, rfl⟩
  go_wp2_with fail
  refine (HH.out _).mono ?_
  rintro e w' ⟨rfl, rfl⟩
  go_wp2_with (at_builtin; refine wpList_append_row rfl (.tmp 20) (.tmp 21) _ rfl w.heap.size 5 i0 _ 1 Try.underlying22 HI0.out HZ0.out HZ1.out HZ2.out rfl (.slice (some ⟨w.heap.size, 0, none⟩) 0 0) 0 [] rfl (World.ownsRow_lit w #[] 0 (Nat.le_refl _) (by unfold maxLen; omega) rfl) A1 n c1 w.heap.size (l1.map (.int .u8)) rfl Z1.out (by simp; exact L1.out) (R1.out.below ((Below.refl _ _).alloc (Nat.le_refl _) _)) ONE.out (by unfold maxLen; omega) (by omega) (by simp) ?_; intro va wa owna ga; have HOa := Lib.hid owna; have HBa := Lib.hid (below_grown ((Below.refl _ _).alloc (Nat.le_refl _) _) (World.ownsRow_lit w #[] 0 (Nat.le_refl _) (by unfold maxLen; omega) rfl) (Nat.le_refl _) (by simp) ga); clear owna ga)
  have hsa := HBa.out.size
  refine (HLaw.out va w wa HOa.out hsa HBa.out RL.out).mono ?_
  rintro e w3 ⟨x, rfl, hownx, hbel2, hbsx⟩
  have hrowx : ∀ A3 c3, x = .slice A3 (0 + n + hs s * 20) c3 → Row w3 w3.heap.size A3 ((l1 ++ allb (hs s) l).map (.int .u8)) := by
    intro A3 c3 hx
    subst hx
    have := own_row hownx
    rw [List.nil_append, ← List.map_append] at this
    exact this
  have HRX := Lib.hid hrowx
  have hcs := own_cases hownx
  have hlen : (l1 ++ allb (hs s) l).length = n + hs s * 20 := by rw [List.length_append, allb_len, L1.out, LL.out]
  have HLen := Lib.hid hlen
  have hby : ∀ y ∈ l1 ++ allb (hs s) l, 0 ≤ y ∧ y ≤ 255 := by
    intro y hy
    rcases List.mem_append.1 hy with h | h
    · exact B1.out y h
    · exact allb_in _ _ y h
  have HBy := Lib.hid hby
  have hr13 := R1.out.below hbel2
  have cv1 := fun (j : Nat) => conv_any (c := c1) (hr13.below (below_drewN (Below.refl _ w3) j)) L1.out
  have HFin := Lib.hid hbel2
  have hput := fun (i x : Nat) (hi : i < l.length) (hx : l.getD i 0 = (x : Int)) => atN_put l1 (hs s) l i x hi hx (hs s) (Nat.le_refl _)
  have HPut := Lib.hid hput
  have HL2 := Lib.hid (RL.out.below hbel2)
  clear hownx hbel2 hrowx hlen hby hr13 hput hsa
  generalize hk : hs s = k at *
  have HK := Lib.hid hk
  clear hk
  have e1 : IntKind.i64.wrap ((k : Int) * 20) = ((k * 20 : Nat) : Int) := by rw [show (k : Int) * 20 = ((k * 20 : Nat) : Int) by rw [Int.natCast_mul]; try rfl]; exact IntWalk.i64_in _ (by omega)
  have e2 : IntKind.i64.wrap ((n : Int) + ((k * 20 : Nat) : Int)) = ((n + k * 20 : Nat) : Int) := by rw [show (n : Int) + ((k * 20 : Nat) : Int) = ((n + k * 20 : Nat) : Int) by omega]; exact IntWalk.i64_in _ (by omega)
  rcases hcs with ⟨rfl, htot⟩ | ⟨g, c3, rfl, hc3, hc3m⟩
  · have hz1 : n = 0 := by omega
    have hz2 : k * 20 = 0 := by omega
    subst hz1
    have hl0 : l1 = [] := List.eq_nil_of_length_eq_zero L1.out
    have hx0 : Row w3 w3.heap.size none ((l1 ++ allb k l).map (.int .u8)) := .inl (by rw [List.map_eq_nil_iff]; exact List.eq_nil_of_length_eq_zero (by rw [HLen.out]; omega))
    have HX0 := Lib.hid hx0
    subst hl0
    have cv2 := fun (j : Nat) => conv_zero (w3.drewN j) none 0
    have q3 : ((strOfNums []).toList != (strOfNums []).toList) = false := by simp
    rw [hz2] at e1
    rw [hz2] at HLen
    have e6 : IntKind.i64.wrap ((0 : Int) + 0) = 0 := by decide
    clear hx0 HRX e2 htot
    go_wp2_with fail
    go_quiet (fail)
    go_wp2_with fail
    go_loop [9] (fun i => ∃ j : Nat, j ≤ 20 ∧ i = .int .i64 j) (fun i => 20 - (intOf i).toNat)
    case atStart => exact ⟨0, by omega, rfl⟩
    case round =>
      obtain ⟨i, hi, rfl⟩ := hrel
      by_cases hlt : i < 20
      · have hkl : i < l.length := by rw [LL.out]; exact hlt
        obtain ⟨b3, off3, hA3, _, hcc⟩ := HL2.out.at_ (by intro h; simp at h; rw [h] at hkl; simp at hkl)
        obtain ⟨rfl, rfl⟩ : b2 = b3 ∧ off2 = off3 := by injection hA3 with hA3; injection hA3 with h1 h2; exact ⟨h1, h2⟩
        have hcell : w3.cell? ⟨b2, off2 + i, none⟩ = some (.int .u64 (l[i])) := hcc i _ (by simp [hkl])
        have hgd : l.getD i 0 = l[i] := by simp [List.getD_eq_getElem?_getD, List.getElem?_eq_getElem hkl]
        have hx := HW.out l[i] (List.getElem_mem hkl)
        have hki : k * i ≤ 8 * i := Nat.mul_le_mul_right _ hk8
        have hki2 : k * i ≤ 160 := by omega
        clear hcc hki
        generalize l[i] = z at *
        obtain ⟨x, rfl⟩ := Int.eq_ofNat_of_zero_le hx.1
        have hx2 : x < 18446744073709551616 := by omega
        have hpt := HPut.out i x hkl hgd
        rw [L1.out, Nat.sub_self, Nat.pow_zero, Nat.div_one] at hpt
        have hat : atZ ([] ++ allb k l) ((0 + k * i : Nat) : Int) s = ((x % 256 ^ k : Nat) : Int) := by
          unfold atZ
          rw [if_neg (by omega), Int.toNat_natCast, HK.out]
          exact hpt
        have e3 : IntKind.i64.wrap ((k : Int) * (i : Int)) = ((k * i : Nat) : Int) := by rw [← Int.natCast_mul]; exact IntWalk.i64_in _ (by omega)
        have e4 : IntKind.i64.wrap ((0 : Int) + ((k * i : Nat) : Int)) = ((0 + k * i : Nat) : Int) := by rw [show (0 : Int) + ((k * i : Nat) : Int) = ((0 + k * i : Nat) : Int) by omega]; exact IntWalk.i64_in _ (by omega)
        have HAT := Lib.hid hat
        have HX2 := Lib.hid hx2
        clear hpt hat hx hx2 hgd
        by_cases hk7 : k < 8
        · have hp7 : 256 ^ k ≤ 256 ^ 7 := Nat.pow_le_pow_right (by omega) (by omega)
          have hpe : (2 : Int) ^ (8 * k) = ((256 ^ k : Nat) : Int) := by rw [Int.pow_mul, Int.natCast_pow]; rfl
          have hp0 : 0 < 256 ^ k := Nat.pow_pos (by omega)
          have e5 : IntKind.u64.wrap ((2 : Int) ^ (8 * k)) = ((256 ^ k : Nat) : Int) := by rw [hpe, IntKind.wrap_u64]; omega
          rw [show ((x % 256 ^ k : Nat) : Int) = (x : Int) % ((256 ^ k : Nat) : Int) from Int.natCast_emod _ _] at HAT
          clear hp7 hpe
          generalize hP : 256 ^ k = P at *
          have o1 : ((x : Int) % (P : Int) != (x : Int) % (P : Int)) = false := by simp
          clear hP
          have HQ := Lib.hid (fun (f : Int) (hf : f = ((0 + k * i : Nat) : Int)) => (congrArg (fun z => atZ ([] ++ allb k l) z s) hf).trans HAT.out)
          go_wp2_with fail
          refine (at_any none 0 0 ([] ++ allb k l) _ s _ HLen.out (by omega) (by omega) (by omega) (by intro h; first | rfl | cases h) (HX0.out.below (below_drewN (Below.refl _ w3) _) |>.more (by simp)) HBy.out (by omega)).mono ?_
          rintro e w' ⟨rfl, rfl⟩
          rw [HQ.out _ (by first | rfl | (simp; done) | (push_cast; rfl) | omega)]
          go_wp2_with fail
          go_round
          case rel => exact ⟨i + 1, by omega, by go_num⟩
          case measure => simp [intOf]; omega
        · exfalso; omega
      · go_wp2_with fail
        refine (awake_any _).mono ?_
        rintro e w4 ⟨rfl, hb4⟩
        go_wp2_with fail
        go_ret
        exact ⟨rfl, bel_call (below_drewN HFin.out _) hb4⟩
  · unfold maxLen at hc3m
    have hx0 := HRX.out (some ⟨g, 0, none⟩) c3 rfl
    have hxr := hx0.take n
    rw [← List.map_take, List.take_left' L1.out] at hxr
    have cv2 := fun (j : Nat) => conv_any (n := n) (c := c3) (hxr.below (below_drewN (Below.refl _ w3) j)) L1.out
    have HX0 := Lib.hid hx0
    have f1 : (0 + n + k * 20 : Nat) = n + k * 20 := by omega
    rw [f1] at hc3 ⊢
    have q3 : ((strOfNums l1).toList != (strOfNums l1).toList) = false := by simp
    have q5 : n ≤ c3 := by omega
    clear hx0 hxr f1 HRX
    go_wp2_with fail
    go_quiet (fail)
    go_wp2_with fail
    go_loop [9] (fun i => ∃ j : Nat, j ≤ 20 ∧ i = .int .i64 j) (fun i => 20 - (intOf i).toNat)
    case atStart => exact ⟨0, by omega, rfl⟩
    case round =>
      obtain ⟨i, hi, rfl⟩ := hrel
      by_cases hlt : i < 20
      · have hkl : i < l.length := by rw [LL.out]; exact hlt
        obtain ⟨b3, off3, hA3, _, hcc⟩ := HL2.out.at_ (by intro h; simp at h; rw [h] at hkl; simp at hkl)
        obtain ⟨rfl, rfl⟩ : b2 = b3 ∧ off2 = off3 := by injection hA3 with hA3; injection hA3 with h1 h2; exact ⟨h1, h2⟩
        have hcell : w3.cell? ⟨b2, off2 + i, none⟩ = some (.int .u64 (l[i])) := hcc i _ (by simp [hkl])
        have hgd : l.getD i 0 = l[i] := by simp [List.getD_eq_getElem?_getD, List.getElem?_eq_getElem hkl]
        have hx := HW.out l[i] (List.getElem_mem hkl)
        have hki : k * i ≤ 8 * i := Nat.mul_le_mul_right _ hk8
        have hki2 : k * i ≤ 160 := by omega
        clear hcc hki
        generalize l[i] = z at *
        obtain ⟨x, rfl⟩ := Int.eq_ofNat_of_zero_le hx.1
        have hx2 : x < 18446744073709551616 := by omega
        have hpt := HPut.out i x hkl hgd
        rw [L1.out, Nat.sub_self, Nat.pow_zero, Nat.div_one] at hpt
        have hat : atZ (l1 ++ allb k l) ((n + k * i : Nat) : Int) s = ((x % 256 ^ k : Nat) : Int) := by
          unfold atZ
          rw [if_neg (by omega), Int.toNat_natCast, HK.out]
          exact hpt
        have e3 : IntKind.i64.wrap ((k : Int) * (i : Int)) = ((k * i : Nat) : Int) := by rw [← Int.natCast_mul]; exact IntWalk.i64_in _ (by omega)
        have e4 : IntKind.i64.wrap ((n : Int) + ((k * i : Nat) : Int)) = ((n + k * i : Nat) : Int) := by rw [show (n : Int) + ((k * i : Nat) : Int) = ((n + k * i : Nat) : Int) by omega]; exact IntWalk.i64_in _ (by omega)
        have HAT := Lib.hid hat
        have HX2 := Lib.hid hx2
        clear hpt hat hx hx2 hgd
        by_cases hk7 : k < 8
        · have hp7 : 256 ^ k ≤ 256 ^ 7 := Nat.pow_le_pow_right (by omega) (by omega)
          have hpe : (2 : Int) ^ (8 * k) = ((256 ^ k : Nat) : Int) := by rw [Int.pow_mul, Int.natCast_pow]; rfl
          have hp0 : 0 < 256 ^ k := Nat.pow_pos (by omega)
          have e5 : IntKind.u64.wrap ((2 : Int) ^ (8 * k)) = ((256 ^ k : Nat) : Int) := by rw [hpe, IntKind.wrap_u64]; omega
          rw [show ((x % 256 ^ k : Nat) : Int) = (x : Int) % ((256 ^ k : Nat) : Int) from Int.natCast_emod _ _] at HAT
          clear hp7 hpe
          generalize hP : 256 ^ k = P at *
          have o1 : ((x : Int) % (P : Int) != (x : Int) % (P : Int)) = false := by simp
          clear hP
          have HQ := Lib.hid (fun (f : Int) (hf : f = ((n + k * i : Nat) : Int)) => (congrArg (fun z => atZ (l1 ++ allb k l) z s) hf).trans HAT.out)
          go_wp2_with fail
          refine (at_any (some ⟨g, 0, none⟩) (n + k * 20) c3 (l1 ++ allb k l) _ s _ HLen.out (by omega) (by omega) (by omega) (by intro h; first | rfl | cases h) (HX0.out.below (below_drewN (Below.refl _ w3) _) |>.more (by simp)) HBy.out (by omega)).mono ?_
          rintro e w' ⟨rfl, rfl⟩
          rw [HQ.out _ (by first | rfl | (simp; done) | (push_cast; rfl) | omega)]
          go_wp2_with fail
          go_round
          case rel => exact ⟨i + 1, by omega, by go_num⟩
          case measure => simp [intOf]; omega
        · have hk9 : k = 8 := by omega
          have hm8 : x % 256 ^ k = x := by rw [hk9]; exact Nat.mod_eq_of_lt HX2.out
          rw [hm8] at HAT
          have o1 : ((x : Int) != (x : Int)) = false := by simp
          have hk10 : decide ((k : Int) < 8) = false := by simp; omega
          clear hk9 hm8
          have HQ := Lib.hid (fun (f : Int) (hf : f = ((n + k * i : Nat) : Int)) => (congrArg (fun z => atZ (l1 ++ allb k l) z s) hf).trans HAT.out)
          go_wp2_with fail
          refine (at_any (some ⟨g, 0, none⟩) (n + k * 20) c3 (l1 ++ allb k l) _ s _ HLen.out (by omega) (by omega) (by omega) (by intro h; first | rfl | cases h) (HX0.out.below (below_drewN (Below.refl _ w3) _) |>.more (by simp)) HBy.out (by omega)).mono ?_
          rintro e w' ⟨rfl, rfl⟩
          rw [HQ.out _ (by first | rfl | (simp; done) | (push_cast; rfl) | omega)]
          go_wp2_with fail
          go_round
          case rel => exact ⟨i + 1, by omega, by go_num⟩
          case measure => simp [intOf]; omega
      · go_wp2_with fail
        refine (awake_any _).mono ?_
        rintro e w4 ⟨rfl, hb4⟩
        go_wp2_with fail
        go_ret
        exact ⟨rfl, bel_call (below_drewN HFin.out _) hb4⟩
end Go.Proofs.Ythbmgeggnkeejaa.octE
