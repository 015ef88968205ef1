/- Layer 8: the law on bytes that are parsed. -/
import Derived.Test.YtgikoljnmmnkkaaFourF
namespace Go.Proofs.Ytgikoljnmmnkkaa.fourG
open Go.ChangeShapes Go.WideShapes Go.ChangeAt Go.RowKit
open Go.Proofs.Ytgikoljnmmnkkaa.base Go.Proofs.Ytgikoljnmmnkkaa.sumA Go.Proofs.Ytgikoljnmmnkkaa.sumB Go.Proofs.Ytgikoljnmmnkkaa.octA Go.Proofs.Ytgikoljnmmnkkaa.octB Go.Proofs.Ytgikoljnmmnkkaa.octC Go.Proofs.Ytgikoljnmmnkkaa.octD Go.Proofs.Ytgikoljnmmnkkaa.octE Go.Proofs.Ytgikoljnmmnkkaa.octF Go.Proofs.Ytgikoljnmmnkkaa.octK Go.Proofs.Ytgikoljnmmnkkaa.rdrA Go.Proofs.Ytgikoljnmmnkkaa.udpA Go.Proofs.Ytgikoljnmmnkkaa.tcpC Go.Proofs.Ytgikoljnmmnkkaa.net Go.Proofs.Ytgikoljnmmnkkaa.fourA Go.Proofs.Ytgikoljnmmnkkaa.fourB Go.Proofs.Ytgikoljnmmnkkaa.fourC Go.Proofs.Ytgikoljnmmnkkaa.fourD Go.Proofs.Ytgikoljnmmnkkaa.fourE Go.Proofs.Ytgikoljnmmnkkaa.fourF
set_option linter.unusedVariables false

theorem flz_says (v : Int) (h0 : 0 ≤ v) (h1 : v < 32768) : flz (decide (v / 16384 % 2 = 1)) (decide (v / 8192 % 2 = 1)) (v % 8192) = v := by
  unfold flz
  by_cases a : v / 16384 % 2 = 1 <;> by_cases b : v / 8192 % 2 = 1 <;> simp [a, b] <;> omega
theorem okF_of (l : List Int) (hx : ∀ x ∈ l, 0 ≤ x ∧ x ≤ 255) (s : Nat) (hsz : hl l = (s : Int)) (h2 : 20 ≤ s) :
    okF (l.getD 1 0) (w16 l 4) (w16 l 6 % 8192) (l.getD 8 0) (l.getD 9 0) (w32 l 12) (w32 l 16) (s - 20) := by
  unfold hl at hsz
  have a := getD_in l hx 0
  have b := w16_in l hx 6
  exact ⟨getD_in l hx 1, w16_in l hx 4, by omega, getD_in l hx 8, getD_in l hx 9, w32_in l hx 12, w32_in l hx 16, by omega, by omega⟩
theorem getD_drop (l : List Int) (i j : Nat) : (l.drop i).getD j 0 = l.getD (i + j) 0 := by
  rw [List.getD_eq_getElem?_getD, List.getD_eq_getElem?_getD, List.getElem?_drop]
theorem hk_get (l : List Int) (hx : ∀ x ∈ l, 0 ≤ x ∧ x ≤ 255) (s a : Nat) (ck : Int) (hsz : hl l = (s : Int)) (h4 : l.getD 0 0 / 16 = 4) (h2 : 20 ≤ s) (hsl : s ≤ l.length) (ha : w16 l 2 = (a : Int)) (ha1 : s ≤ a) (ha2 : a ≤ l.length) (i : Nat) (hi : i < a) (h10 : i ≠ 10) (h11 : i ≠ 11) :
    (hk (l.getD 1 0) (w16 l 4) (w16 l 6) (l.getD 8 0) (l.getD 9 0) (w32 l 12) (w32 l 16) ck (w16 l 2) ((l.take s).drop 20) ++ (l.drop s).take (a - s)).getD i 0 = l.getD i 0 := by
  have b : ∀ j, 0 ≤ l.getD j 0 ∧ l.getD j 0 ≤ 255 := fun j => getD_in l hx j
  have hlo : ((l.take s).drop 20).length = s - 20 := by rw [List.length_drop, List.length_take]; omega
  have hlk : (hk (l.getD 1 0) (w16 l 4) (w16 l 6) (l.getD 8 0) (l.getD 9 0) (w32 l 12) (w32 l 16) ck (w16 l 2) ((l.take s).drop 20)).length = s := by rw [hk_len, hlo]; omega
  rcases Nat.lt_or_ge i s with g | g
  · rw [List.getD_eq_getElem?_getD, List.getElem?_append_left (by omega), ← List.getD_eq_getElem?_getD]
    unfold hk
    rcases Nat.lt_or_ge i 20 with g2 | g2
    · rw [List.getD_eq_getElem?_getD, List.getElem?_append_left (by simpa using g2)]
      unfold hl at hsz
      have q0 := b 0
      have q1 := b 2
      have q2 := b 3
      have q3 := b 4
      have q4 := b 5
      have q5 := b 6
      have q6 := b 7
      have q7 := b 12
      have q8 := b 13
      have q9 := b 14
      have qa := b 15
      have qb := b 16
      have qc := b 17
      have qd := b 18
      have qe := b 19
      match i, g2, h10, h11 with
      | 0, _, _, _ => show 64 + (20 + (((l.take s).drop 20).length : Int)) / 4 = _; rw [hlo]; omega
      | 1, _, _, _ => rfl
      | 2, _, _, _ => show (l.getD 2 0 * 256 + l.getD 3 0) / 256 = _; omega
      | 3, _, _, _ => show (l.getD 2 0 * 256 + l.getD 3 0) % 256 = _; omega
      | 4, _, _, _ => show (l.getD 4 0 * 256 + l.getD 5 0) / 256 = _; omega
      | 5, _, _, _ => show (l.getD 4 0 * 256 + l.getD 5 0) % 256 = _; omega
      | 6, _, _, _ => show (l.getD 6 0 * 256 + l.getD 7 0) / 256 = _; omega
      | 7, _, _, _ => show (l.getD 6 0 * 256 + l.getD 7 0) % 256 = _; omega
      | 8, _, _, _ => rfl
      | 9, _, _, _ => rfl
      | 10, _, h, _ => exact absurd rfl h
      | 11, _, _, h => exact absurd rfl h
      | 12, _, _, _ => show ((l.getD 12 0 * 256 + l.getD 13 0) * 65536 + (l.getD 14 0 * 256 + l.getD 15 0)) / 65536 / 256 = _; omega
      | 13, _, _, _ => show ((l.getD 12 0 * 256 + l.getD 13 0) * 65536 + (l.getD 14 0 * 256 + l.getD 15 0)) / 65536 % 256 = _; omega
      | 14, _, _, _ => show ((l.getD 12 0 * 256 + l.getD 13 0) * 65536 + (l.getD 14 0 * 256 + l.getD 15 0)) % 65536 / 256 = _; omega
      | 15, _, _, _ => show ((l.getD 12 0 * 256 + l.getD 13 0) * 65536 + (l.getD 14 0 * 256 + l.getD 15 0)) % 65536 % 256 = _; omega
      | 16, _, _, _ => show ((l.getD 16 0 * 256 + l.getD 17 0) * 65536 + (l.getD 18 0 * 256 + l.getD 19 0)) / 65536 / 256 = _; omega
      | 17, _, _, _ => show ((l.getD 16 0 * 256 + l.getD 17 0) * 65536 + (l.getD 18 0 * 256 + l.getD 19 0)) / 65536 % 256 = _; omega
      | 18, _, _, _ => show ((l.getD 16 0 * 256 + l.getD 17 0) * 65536 + (l.getD 18 0 * 256 + l.getD 19 0)) % 65536 / 256 = _; omega
      | 19, _, _, _ => show ((l.getD 16 0 * 256 + l.getD 17 0) * 65536 + (l.getD 18 0 * 256 + l.getD 19 0)) % 65536 % 256 = _; omega
      | (j + 20), g3, _, _ => exact absurd g3 (by omega)
    · rw [List.getD_eq_getElem?_getD, List.getElem?_append_right (by simpa using g2), ← List.getD_eq_getElem?_getD]
      show ((l.take s).drop 20).getD (i - 20) 0 = _
      rw [getD_drop, show 20 + (i - 20) = i by omega, getD_take l s i g]
  · rw [List.getD_eq_getElem?_getD, List.getElem?_append_right (by omega), ← List.getD_eq_getElem?_getD, hlk, getD_take _ _ _ (by omega), getD_drop]
    congr 1
    omega
theorem parse_begin_at (A : Option Addr) (n c : Nat) (k : Int) (hk : k ≠ 0) (w : World) (h : ∀ W, Below w.heap.size w W → Calls Try.prog 62 #[.slice A n c] W fun e w' => e = .returned (.tuple #[.int .i64 0, .int .i64 k]) ∧ W = w') :
    Calls Try.prog 25 #[.slice A n c] w fun e w' => e = .returned (err k) ∧ Below w.heap.size w w' := by
  have tk : (k != 0) = true := bneT hk
  have H := Lib.hid (h (w.alloc (.cells #[.int .i64 0, .int .i64 0, .bool false, .bool false, .int .i64 0, .int .i64 0, .int .i64 0, .bool false, .int .u64 0, .int .u64 0, .bool false, .int .u64 0, .int .u64 0, .slice none 0 0] 54)) ((Below.refl _ _).alloc (Nat.le_refl _) _))
  clear h hk
  go_enter Try.func25, Try.ntmps25
  go_wp2_with fail
  refine H.out.mono ?_
  rintro e w1 ⟨rfl, hw⟩
  subst hw
  go_wp2_with fail
  exact bodyPost_ret (v := err k) (by simp [results, Try.results25, go_sem, err]) rfl ⟨rfl, (Below.refl _ _).alloc (Nat.le_refl _) _⟩
theorem quote_begin_at (A : Option Addr) (n c : Nat) (k : Int) (hk : k ≠ 0) (w : World) (h : ∀ W, Below w.heap.size w W → Calls Try.prog 62 #[.slice A n c] W fun e w' => e = .returned (.tuple #[.int .i64 0, .int .i64 k]) ∧ W = w') :
    Calls Try.prog 23 #[.slice A n c] w fun e w' => e = .returned (err k) ∧ Below w.heap.size w w' := by
  have tk : (k != 0) = true := bneT hk
  have H := Lib.hid (h (w.alloc (.cells #[.int .i64 0, .int .i64 0, .bool false, .bool false, .int .i64 0, .int .i64 0, .int .i64 0, .bool false, .int .u64 0, .int .u64 0, .bool false, .int .u64 0, .int .u64 0, .slice none 0 0] 54)) ((Below.refl _ _).alloc (Nat.le_refl _) _))
  clear h hk
  go_enter Try.func23, Try.ntmps23
  go_wp2_with fail
  refine H.out.mono ?_
  rintro e w1 ⟨rfl, hw⟩
  subst hw
  go_wp2_with fail
  exact bodyPost_ret (v := err k) (by simp [results, Try.results23, go_sem, err]) rfl ⟨rfl, (Below.refl _ _).alloc (Nat.le_refl _) _⟩
set_option maxRecDepth 100000 in
set_option maxHeartbeats 4000000 in
theorem law_err (v1 : Value) (A : Option Addr) (n c : Nat) (k : Int) (hk0 : k ≠ 0) (w : World)
    (C1 : Hid (∀ w : World, Calls Try.prog 24 #[v1] w fun e w' => e = .returned (.slice A n c) ∧ w = w'))
    (HP : Hid (Calls Try.prog 25 #[.slice A n c] w fun e w' => e = .returned (err k) ∧ Below w.heap.size w w'))
    (HW : Hid (∀ W : World, Below w.heap.size w W → Calls Try.prog 26 #[.slice A n c] W fun e w' => e = .returned (.int .i64 k) ∧ Below W.heap.size W w')) :
    Calls Try.prog 6 #[v1] w fun e w' => e = .returned (.bool true) ∧ Below w.heap.size w w' := by
  have tk : (k != 0) = true := bneT hk0
  have HSA := Lib.hid (fun w => same_one 0 0 false false 0 0 0 0 0 none 0 0 none 0 [] w rfl (.inl rfl) (.inl rfl))
  have HAW := Lib.hid awake_any
  clear hk0
  go_enter Try.func6, Try.ntmps6
  go_wp2_with fail
  refine (C1.out _).mono ?_
  rintro e w' ⟨rfl, rfl⟩
  go_wp2_with fail
  refine HP.out.mono ?_
  rintro e w1 ⟨rfl, hb⟩
  unfold err
  have HB := Lib.hid (bel_alloc hb (.cells #[.int .i64 0, .int .i64 0, .bool false, .bool false, .int .i64 0, .int .i64 0, .int .i64 0, .bool false, .int .u64 0, .int .u64 0, .bool false, .int .u64 0, .int .u64 0, .slice none 0 0] 54))
  have BX := Lib.hid (Blk.new w1 54 #[.int .i64 0, .int .i64 0, .bool false, .bool false, .int .i64 0, .int .i64 0, .int .i64 0, .bool false, .int .u64 0, .int .u64 0, .bool false, .int .u64 0, .int .u64 0, .slice none 0 0])
  have HW2 := Lib.hid (HW.out (w1.alloc (.cells #[.int .i64 0, .int .i64 0, .bool false, .bool false, .int .i64 0, .int .i64 0, .int .i64 0, .bool false, .int .u64 0, .int .u64 0, .bool false, .int .u64 0, .int .u64 0, .slice none 0 0] 54)) HB.out)
  clear hb
  go_wp2_with fail
  refine HW2.out.mono ?_
  rintro e w2 ⟨rfl, hb2⟩
  have HB2 := Lib.hid (bel_call HB.out hb2)
  have BX2 := Lib.hid (BX.out.below hb2 BX.out.lt)
  clear hb2 BX HB HW2
  have o0 : w2.cell? ⟨w1.heap.size, 0, none⟩ = some (.int .i64 0) := BX2.out.cell 0
  have o1 : w2.cell? ⟨w1.heap.size, 1, none⟩ = some (.int .i64 0) := BX2.out.cell 1
  have o2 : w2.cell? ⟨w1.heap.size, 2, none⟩ = some (.bool false) := BX2.out.cell 2
  have o3 : w2.cell? ⟨w1.heap.size, 3, none⟩ = some (.bool false) := BX2.out.cell 3
  have o4 : w2.cell? ⟨w1.heap.size, 4, none⟩ = some (.int .i64 0) := BX2.out.cell 4
  have o5 : w2.cell? ⟨w1.heap.size, 5, none⟩ = some (.int .i64 0) := BX2.out.cell 5
  have o6 : w2.cell? ⟨w1.heap.size, 6, none⟩ = some (.int .i64 0) := BX2.out.cell 6
  have o7 : w2.cell? ⟨w1.heap.size, 7, none⟩ = some (.bool false) := BX2.out.cell 7
  have o8 : w2.cell? ⟨w1.heap.size, 8, none⟩ = some (.int .u64 0) := BX2.out.cell 8
  have o9 : w2.cell? ⟨w1.heap.size, 9, none⟩ = some (.int .u64 0) := BX2.out.cell 9
  have o10 : w2.cell? ⟨w1.heap.size, 10, none⟩ = some (.bool false) := BX2.out.cell 10
  have o11 : w2.cell? ⟨w1.heap.size, 11, none⟩ = some (.int .u64 0) := BX2.out.cell 11
  have o12 : w2.cell? ⟨w1.heap.size, 12, none⟩ = some (.int .u64 0) := BX2.out.cell 12
  have o13 : w2.cell? ⟨w1.heap.size, 13, none⟩ = some (.slice none 0 0) := BX2.out.cell 13
  go_wp2_with fail
  refine (HSA.out _).mono ?_
  rintro e w3 ⟨rfl, hb3⟩
  have HB3 := Lib.hid (bel_call HB2.out hb3)
  clear hb3
  go_wp2_with fail
  refine (HAW.out _).mono ?_
  rintro e w4 ⟨rfl, hb4⟩
  go_wp2_with fail
  go_ret
  exact ⟨rfl, bel_call HB3.out hb4⟩
set_option maxRecDepth 100000 in
set_option maxHeartbeats 8000000 in
theorem law_ok (v1 : Value) (b off n c s a : Nat) (l : List Int) (w : World) (hl' : l.length = n) (hn : 20 ≤ n) (hn2 : n ≤ 300) (hnc : n ≤ c) (hc : c ≤ 9223372036854775807) (hb : b < w.heap.size) (hs : Lies w b off l) (hx : ∀ x ∈ l, 0 ≤ x ∧ x ≤ 255)
    (h1 : l.getD 0 0 / 16 = 4) (h2 : 20 ≤ s) (h3 : s ≤ n) (hsz : hl l = (s : Int)) (hq : w16 l 6 < 32768) (ha : w16 l 2 = (a : Int)) (ha1 : s ≤ a) (ha2 : a ≤ n) (hS : fo (wsum (l.take s)) = 65535)
    (C1 : Hid (∀ w : World, Calls Try.prog 24 #[v1] w fun e w' => e = .returned (.slice (some ⟨b, off, none⟩) n c) ∧ w = w'))
    (HP : Hid (Calls Try.prog 25 #[.slice (some ⟨b, off, none⟩) n c] w (OkPost w l ((l.drop s).take (a - s)) s (a - s)))) :
    Calls Try.prog 6 #[v1] w fun e w' => e = .returned (.bool true) ∧ Below w.heap.size w w' := by
  have HW := Lib.hid (fun (W : World) (hW : Below w.heap.size w W) => why_ok b off n c l W hl' hn (by omega) hnc hc (Nat.lt_of_lt_of_le hb hW.size) (hs.below hW hb) hx h1 s hsz h2 h3 hq (by omega) (by omega) hS)
  have HOK := Lib.hid (okF_of l hx s hsz h2)
  have k6 := w16_in l hx 6
  have HFZ := Lib.hid (flz_says (w16 l 6) k6.1 hq)
  have HXG := Lib.hid (fun ck i => hk_get l hx s a ck hsz h1 h2 (by omega) ha ha1 (by omega) i)
  have HOL := Lib.hid (show ((l.take s).drop 20).length = s - 20 by rw [List.length_drop, List.length_take]; omega)
  have HOX := Lib.hid (show ∀ x ∈ (l.take s).drop 20, 0 ≤ x ∧ x ≤ 255 from fun x h => hx x (List.mem_of_mem_take (List.mem_of_mem_drop h)))
  have HRL := Lib.hid (show ((l.drop s).take (a - s)).length = a - s by rw [List.length_take, List.length_drop]; omega)
  have LIE := Lib.hid (show ∀ i, i < n → ∀ W : World, Below w.heap.size w W → W.cell? ⟨b, off + i, none⟩ = some (.int .u8 (l.getD i 0)) from fun i hi W hW => (hs.below hW hb) i (by rw [hl']; exact hi))
  have HSZE := Lib.hid (show 20 + ((s - 20 : Nat) : Int) + ((a - s : Nat) : Int) = w16 l 2 by rw [ha]; omega)
  have HAW := Lib.hid awake_any
  have tl : decide ((n : Int) < (a : Int)) = false := decide_eq_false (by omega)
  have tln : decide (n < a) = false := decide_eq_false (by omega)
  have HHD0 : ∀ A n c, hd l A n c = .agg #[.int .i64 (l.getD 1 0), .int .i64 (w16 l 4), .bool (decide (w16 l 6 / 16384 % 2 = 1)), .bool (decide (w16 l 6 / 8192 % 2 = 1)), .int .i64 (w16 l 6 % 8192), .int .i64 (l.getD 8 0), .int .i64 (l.getD 9 0), .bool false, .int .u64 0, .int .u64 (w32 l 12), .bool false, .int .u64 0, .int .u64 (w32 l 16), .slice A n c] := fun _ _ _ => rfl
  clear hs hx h1 hsz ha hS k6
  generalize l.getD 1 0 = tos at *
  generalize w16 l 4 = id at *
  generalize decide (w16 l 6 / 16384 % 2 = 1) = df at *
  generalize decide (w16 l 6 / 8192 % 2 = 1) = mf at *
  generalize w16 l 6 % 8192 = fr at *
  generalize l.getD 8 0 = ttl at *
  generalize l.getD 9 0 = pr at *
  generalize w32 l 12 = sl at *
  generalize w32 l 16 = dl at *
  have HHD := Lib.hid HHD0
  clear HHD0
  rw [← HFZ.out] at HXG
  clear HFZ hq
  rw [← HSZE.out] at HXG
  clear HSZE
  have HLB := Lib.hid (fun (AO : Option Addr) (co : Nat) (A2 : Option Addr) (c2 : Nat) (W : World) hor hoz hr hz => lawbytes_any tos id df mf fr ttl pr sl dl AO (s - 20) co ((l.take s).drop 20) A2 (a - s) c2 ((l.drop s).take (a - s)) W HOK.out HOL.out hor hoz HOX.out HRL.out (by omega) hr hz _ rfl)
  have HRT := Lib.hid (fun (AO : Option Addr) (co : Nat) (W : World) => lawright_yes tos id df mf fr ttl pr sl dl AO (s - 20) co W HOK.out)
  generalize hck : 65535 - fo _ = ck at HLB
  have HXG2 := Lib.hid (HXG.out ck)
  have HLEN := Lib.hid (show (hk tos id (flz df mf fr) ttl pr sl dl ck (20 + ((s - 20 : Nat) : Int) + ((a - s : Nat) : Int)) ((l.take s).drop 20) ++ (l.drop s).take (a - s)).length = a by rw [List.length_append, hk_len, HOL.out, HRL.out]; omega)
  clear hck HXG
  generalize hk tos id (flz df mf fr) ttl pr sl dl ck (20 + ((s - 20 : Nat) : Int) + ((a - s : Nat) : Int)) ((l.take s).drop 20) ++ (l.drop s).take (a - s) = X at *
  go_enter Try.func6, Try.ntmps6
  go_wp2_with fail
  refine (C1.out _).mono ?_
  rintro e w' ⟨rfl, rfl⟩
  go_wp2_with fail
  refine HP.out.mono ?_
  rintro e w1 ⟨AO, co, v, he, hnn, ownO, ownR, hbel⟩
  rw [HHD.out] at he
  subst he
  obtain ⟨A2, c2, rfl⟩ := own_slice ownR
  have HN1 := Lib.hid hnn
  have HN2 := Lib.hid (own_none ownR)
  have HO1 := Lib.hid (ownO.alloc (.cells #[.int .i64 tos, .int .i64 id, .bool df, .bool mf, .int .i64 fr, .int .i64 ttl, .int .i64 pr, .bool false, .int .u64 0, .int .u64 sl, .bool false, .int .u64 0, .int .u64 dl, .slice AO (s - 20) co] 54))
  have HO2 := Lib.hid (ownR.alloc (.cells #[.int .i64 tos, .int .i64 id, .bool df, .bool mf, .int .i64 fr, .int .i64 ttl, .int .i64 pr, .bool false, .int .u64 0, .int .u64 sl, .bool false, .int .u64 0, .int .u64 dl, .slice AO (s - 20) co] 54))
  have HB1 := Lib.hid (bel_alloc hbel (.cells #[.int .i64 tos, .int .i64 id, .bool df, .bool mf, .int .i64 fr, .int .i64 ttl, .int .i64 pr, .bool false, .int .u64 0, .int .u64 sl, .bool false, .int .u64 0, .int .u64 dl, .slice AO (s - 20) co] 54))
  have BX1 := Lib.hid (Blk.new w1 54 #[.int .i64 tos, .int .i64 id, .bool df, .bool mf, .int .i64 fr, .int .i64 ttl, .int .i64 pr, .bool false, .int .u64 0, .int .u64 sl, .bool false, .int .u64 0, .int .u64 dl, .slice AO (s - 20) co])
  have HW2 := Lib.hid (HW.out (w1.alloc (.cells #[.int .i64 tos, .int .i64 id, .bool df, .bool mf, .int .i64 fr, .int .i64 ttl, .int .i64 pr, .bool false, .int .u64 0, .int .u64 sl, .bool false, .int .u64 0, .int .u64 dl, .slice AO (s - 20) co] 54)) HB1.out)
  clear hnn ownO ownR hbel
  go_wp2_with fail
  refine HW2.out.mono ?_
  rintro e w2 ⟨rfl, hb2⟩
  have HO1b := Lib.hid (own_keep HO1.out hb2)
  have HO2b := Lib.hid (own_keep HO2.out hb2)
  have HB2 := Lib.hid (bel_call HB1.out hb2)
  have BX2 := Lib.hid (BX1.out.below hb2 BX1.out.lt)
  clear hb2 HO1 HO2 HB1 BX1 HW2
  have HLX := Lib.hid (HLB.out AO co A2 c2 w2 (own_row HO1b.out) HN1.out (own_row HO2b.out) HN2.out)
  have o0 : w2.cell? ⟨w1.heap.size, 0, none⟩ = some (.int .i64 tos) := BX2.out.cell 0
  have o1 : w2.cell? ⟨w1.heap.size, 1, none⟩ = some (.int .i64 id) := BX2.out.cell 1
  have o2 : w2.cell? ⟨w1.heap.size, 2, none⟩ = some (.bool df) := BX2.out.cell 2
  have o3 : w2.cell? ⟨w1.heap.size, 3, none⟩ = some (.bool mf) := BX2.out.cell 3
  have o4 : w2.cell? ⟨w1.heap.size, 4, none⟩ = some (.int .i64 fr) := BX2.out.cell 4
  have o5 : w2.cell? ⟨w1.heap.size, 5, none⟩ = some (.int .i64 ttl) := BX2.out.cell 5
  have o6 : w2.cell? ⟨w1.heap.size, 6, none⟩ = some (.int .i64 pr) := BX2.out.cell 6
  have o7 : w2.cell? ⟨w1.heap.size, 7, none⟩ = some (.bool false) := BX2.out.cell 7
  have o8 : w2.cell? ⟨w1.heap.size, 8, none⟩ = some (.int .u64 0) := BX2.out.cell 8
  have o9 : w2.cell? ⟨w1.heap.size, 9, none⟩ = some (.int .u64 sl) := BX2.out.cell 9
  have o10 : w2.cell? ⟨w1.heap.size, 10, none⟩ = some (.bool false) := BX2.out.cell 10
  have o11 : w2.cell? ⟨w1.heap.size, 11, none⟩ = some (.int .u64 0) := BX2.out.cell 11
  have o12 : w2.cell? ⟨w1.heap.size, 12, none⟩ = some (.int .u64 dl) := BX2.out.cell 12
  have o13 : w2.cell? ⟨w1.heap.size, 13, none⟩ = some (.slice AO (s - 20) co) := BX2.out.cell 13
  go_wp2_with fail
  clear o0 o1 o2 o3 o4 o5 o6 o7 o8 o9 o10 o11 o12 o13
  refine HLX.out.mono ?_
  rintro e w3 ⟨vx, rfl, ownx, hb3⟩
  rw [HLEN.out] at ownx
  obtain ⟨gx, cx, rfl, _, hgx, _, _, hcx, _⟩ := own_form ownx (by omega)
  have HB3 := Lib.hid (bel_call HB2.out hb3)
  have BX3 := Lib.hid (BX2.out.below hb3 BX2.out.lt)
  have HCX := Lib.hid hcx
  clear ownx hb3 hcx HLX HB2 BX2 HO1b HO2b
  have o0 : w3.cell? ⟨w1.heap.size, 0, none⟩ = some (.int .i64 tos) := BX3.out.cell 0
  have o1 : w3.cell? ⟨w1.heap.size, 1, none⟩ = some (.int .i64 id) := BX3.out.cell 1
  have o2 : w3.cell? ⟨w1.heap.size, 2, none⟩ = some (.bool df) := BX3.out.cell 2
  have o3 : w3.cell? ⟨w1.heap.size, 3, none⟩ = some (.bool mf) := BX3.out.cell 3
  have o4 : w3.cell? ⟨w1.heap.size, 4, none⟩ = some (.int .i64 fr) := BX3.out.cell 4
  have o5 : w3.cell? ⟨w1.heap.size, 5, none⟩ = some (.int .i64 ttl) := BX3.out.cell 5
  have o6 : w3.cell? ⟨w1.heap.size, 6, none⟩ = some (.int .i64 pr) := BX3.out.cell 6
  have o7 : w3.cell? ⟨w1.heap.size, 7, none⟩ = some (.bool false) := BX3.out.cell 7
  have o8 : w3.cell? ⟨w1.heap.size, 8, none⟩ = some (.int .u64 0) := BX3.out.cell 8
  have o9 : w3.cell? ⟨w1.heap.size, 9, none⟩ = some (.int .u64 sl) := BX3.out.cell 9
  have o10 : w3.cell? ⟨w1.heap.size, 10, none⟩ = some (.bool false) := BX3.out.cell 10
  have o11 : w3.cell? ⟨w1.heap.size, 11, none⟩ = some (.int .u64 0) := BX3.out.cell 11
  have o12 : w3.cell? ⟨w1.heap.size, 12, none⟩ = some (.int .u64 dl) := BX3.out.cell 12
  have o13 : w3.cell? ⟨w1.heap.size, 13, none⟩ = some (.slice AO (s - 20) co) := BX3.out.cell 13
  go_wp2_with fail
  clear o0 o1 o2 o3 o4 o5 o6 o7 o8 o9 o10 o11 o12 o13
  refine (HRT.out AO co _).mono ?_
  rintro e w7 ⟨rfl, hb7⟩
  have HX7 := Lib.hid (bel_call HB3.out hb7)
  have HC7 := Lib.hid (show ∀ j, j < a → w7.cell? ⟨gx, j, none⟩ = (X.map (Value.int .u8))[j]? from fun j hj => (hb7.cell (p := ⟨gx, j, none⟩) hgx).trans (HCX.out j hj))
  have g7 : gx < w7.heap.size := Nat.lt_of_lt_of_le hgx hb7.size
  clear hb7 HCX hgx BX3 HB3
  go_wp2_with fail
  go_loopw [7] (fun i wr => ∃ r : Nat, r ≤ a ∧ i = .int .i64 r ∧ Below w7.heap.size w7 wr) (fun i _ => a - (intOf i).toNat)
  case atStart => exact ⟨0, by omega, rfl, Below.refl _ _⟩
  case round =>
    obtain ⟨r, hr, rfl, hbw⟩ := hrel
    have HBW := Lib.hid hbw
    by_cases hlt : r < a
    · have d1 : wr.cell? ⟨b, off + r, none⟩ = some (.int .u8 (l.getD r 0)) := LIE.out r (by omega) wr (HX7.out.trans (hbw.mono HX7.out.size))
      have d2 : wr.cell? ⟨gx, r, none⟩ = some (.int .u8 (X.getD r 0)) := by
        rw [hbw.cell (p := ⟨gx, r, none⟩) g7, HC7.out r hlt, List.getElem?_map, List.getElem?_eq_getElem (by rw [HLEN.out]; exact hlt), List.getD_eq_getElem?_getD, List.getElem?_eq_getElem (by rw [HLEN.out]; exact hlt)]
        rfl
      have hub := HXG2.out r hlt
      clear hbw
      generalize l.getD r 0 = yy at *
      generalize X.getD r 0 = u at *
      have e0 : (0 : Int) ≤ (r : Int) := by omega
      have e1 : (r : Int) < (n : Int) := by omega
      have e2 : (r : Int) < (a : Int) := by omega
      by_cases huy : u = yy
      · subst huy
        clear hub
        go_wp2_with fail
        go_quiet (fail)
        go_wp2_with fail
        go_roundw
        case rel => exact ⟨r + 1, by omega, by go_num, below_drewN HBW.out _⟩
        case measure => simp [intOf]; omega
      · have t0 : (u != yy) = true := bneT huy
        have h67 : r = 10 ∨ r = 11 := by
          by_cases a : r = 10
          · exact .inl a
          · by_cases b : r = 11
            · exact .inr b
            · exact absurd (hub a b) huy
        clear hub huy
        rcases h67 with h67 | h67
        · have t1 : ((r : Int) != 10) = false := bneF (by omega)
          have HRR := Lib.hid h67
          clear h67
          go_wp2_with fail
          go_quiet (fail)
          go_wp2_with fail
          go_roundw
          case rel => exact ⟨r + 1, by omega, by go_num, below_drewN HBW.out _⟩
          case measure => simp [intOf]; omega
        · have t1 : ((r : Int) != 10) = true := bneT (by omega)
          have t2 : ((r : Int) != 11) = false := bneF (by omega)
          have HRR := Lib.hid h67
          clear h67
          go_wp2_with fail
          go_quiet (fail)
          go_wp2_with fail
          go_roundw
          case rel => exact ⟨r + 1, by omega, by go_num, below_drewN HBW.out _⟩
          case measure => simp [intOf]; omega
    · clear hbw
      go_wp2_with fail
      refine (HAW.out _).mono ?_
      rintro e w9 ⟨rfl, hb9⟩
      go_wp2_with fail
      go_ret
      exact ⟨rfl, bel_call (bel_call HX7.out HBW.out) hb9⟩
theorem parses_any (v1 : Value) (A : Option Addr) (n c : Nat) (l : List Int) (w : World) (hl' : l.length = n) (hn2 : n ≤ 300) (hnc : n ≤ c) (hc : c ≤ 9223372036854775807) (hr : Row w w.heap.size A (l.map (.int .u8))) (hx : ∀ x ∈ l, 0 ≤ x ∧ x ≤ 255)
    (C1 : Hid (∀ w : World, Calls Try.prog 24 #[v1] w fun e w' => e = .returned (.slice A n c) ∧ w = w')) :
    Calls Try.prog 6 #[v1] w fun e w' => e = .returned (.bool true) ∧ Below w.heap.size w w' := by
  by_cases h20 : n < 20
  · exact law_err v1 A n c 2 (by omega) w C1 (Lib.hid (parse_begin A n c 2 (by omega) w (fun w => begin_short A n c w h20))) (Lib.hid fun W _ => why_short A n c W h20)
  obtain ⟨b, off, rfl, hb, hs⟩ := lies_of hr (by omega)
  have hn : 20 ≤ n := by omega
  have hbW : ∀ W : World, Below w.heap.size w W → b < W.heap.size := fun W hW => Nat.lt_of_lt_of_le hb hW.size
  have E : ∀ k : Int, k ≠ 0 → (Calls Try.prog 25 #[.slice (some ⟨b, off, none⟩) n c] w fun e w' => e = .returned (err k) ∧ Below w.heap.size w w') → (∀ W : World, Below w.heap.size w W → Calls Try.prog 26 #[.slice (some ⟨b, off, none⟩) n c] W fun e w' => e = .returned (.int .i64 k) ∧ Below W.heap.size W w') → Calls Try.prog 6 #[v1] w fun e w' => e = .returned (.bool true) ∧ Below w.heap.size w w' :=
    fun k hk0 hp hw => law_err v1 _ n c k hk0 w C1 (Lib.hid hp) (Lib.hid hw)
  have k0 := getD_in l hx 0
  have BG : ∀ k : Int, k ≠ 0 → (∀ W : World, b < W.heap.size → Lies W b off l → Calls Try.prog 62 #[.slice (some ⟨b, off, none⟩) n c] W fun e w' => e = .returned (.tuple #[.int .i64 0, .int .i64 k]) ∧ W = w') → Calls Try.prog 25 #[.slice (some ⟨b, off, none⟩) n c] w fun e w' => e = .returned (err k) ∧ Below w.heap.size w w' :=
    fun k hk0 h => parse_begin_at _ n c k hk0 w (fun W hW => h W (hbW W hW) (hs.below hW hb))
  by_cases h0 : l.getD 0 0 / 16 = 4
  · have hsN : 0 ≤ hl l := by unfold hl; omega
    obtain ⟨s, hsz⟩ := Int.eq_ofNat_of_zero_le hsN
    by_cases h1 : s < 20
    · exact E 11 (by omega) (BG 11 (by omega) fun W a b' => begin_no b off n c l W hl' hn a b' hx 11 (.inr (.inl ⟨h0, by omega, rfl⟩))) (fun W hW => why_small b off n c l W hl' hn (by omega) hnc hc (hbW W hW) (hs.below hW hb) hx h0 s hsz h1)
    by_cases h2 : n < s
    · exact E 11 (by omega) (BG 11 (by omega) fun W a b' => begin_no b off n c l W hl' hn a b' hx 11 (.inr (.inr ⟨h0, by omega, by omega, rfl⟩))) (fun W hW => why_long b off n c l W hl' hn (by omega) hnc hc (hbW W hW) (hs.below hW hb) hx h0 s hsz (by omega) h2)
    have hs20 : 20 ≤ s := by omega
    have hsn : s ≤ n := by omega
    by_cases h3 : 32768 ≤ w16 l 6
    · exact E 11 (by omega) (parse_bit b off n c s l w hl' hn (by omega) hnc hc hb hs hx h0 hs20 hsn hsz h3) (fun W hW => why_bit b off n c l W hl' hn (by omega) hnc hc (hbW W hW) (hs.below hW hb) hx h0 s hsz hs20 hsn h3)
    have hq : w16 l 6 < 32768 := by omega
    by_cases h4 : w16 l 2 < s
    · exact E 12 (by omega) (parse_less b off n c s l w hl' hn (by omega) hnc hc hb hs hx h0 hs20 hsn hsz hq h4) (fun W hW => why_less b off n c l W hl' hn (by omega) hnc hc (hbW W hW) (hs.below hW hb) hx h0 s hsz hs20 hsn hq h4)
    by_cases h5 : (n : Int) < w16 l 2
    · exact E 12 (by omega) (parse_more b off n c s l w hl' hn (by omega) hnc hc hb hs hx h0 hs20 hsn hsz hq (by omega) h5) (fun W hW => why_more b off n c l W hl' hn (by omega) hnc hc (hbW W hW) (hs.below hW hb) hx h0 s hsz hs20 hsn hq (by omega) h5)
    obtain ⟨a, ha⟩ := Int.eq_ofNat_of_zero_le (w16_in l hx 2).1
    by_cases hS : fo (wsum (l.take s)) = 65535
    · by_cases hcs : c = s
      · exact law_ok v1 b off n c s a l w hl' hn hn2 hnc hc hb hs hx h0 hs20 hsn hsz hq ha (by omega) (by omega) hS C1 (Lib.hid (parse_near b off n c s l w hl' hn (by omega) hnc hc hb hs hx h0 hs20 hsn hsz hq a ha (by omega) (by omega) hS hcs))
      · exact law_ok v1 b off n c s a l w hl' hn hn2 hnc hc hb hs hx h0 hs20 hsn hsz hq ha (by omega) (by omega) hS C1 (Lib.hid (parse_far b off n c s l w hl' hn (by omega) hnc hc hb hs hx h0 hs20 hsn hsz hq a ha (by omega) (by omega) hS hcs))
    · exact E 13 (by omega) (parse_sum b off n c s l w hl' hn (by omega) hnc hc hb hs hx h0 hs20 hsn hsz hq a ha (by omega) (by omega) hS) (fun W hW => why_sum b off n c l W hl' hn (by omega) hnc hc (hbW W hW) (hs.below hW hb) hx h0 s hsz hs20 hsn hq (by omega) (by omega) hS)
  · exact E 10 (by omega) (BG 10 (by omega) fun W a b' => begin_no b off n c l W hl' hn a b' hx 10 (.inl ⟨h0, rfl⟩)) (fun W hW => why_ver b off n c l W hl' hn (by omega) hnc hc (hbW W hW) (hs.below hW hb) hx h0)
end Go.Proofs.Ytgikoljnmmnkkaa.fourG
