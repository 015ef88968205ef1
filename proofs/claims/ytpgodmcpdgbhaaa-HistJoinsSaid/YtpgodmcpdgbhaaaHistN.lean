/- Layer 38: the law on histograms that are joined. -/
import Derived.Test.YtpgodmcpdgbhaaaHistM
import Derived.Test.YtpgodmcpdgbhaaaApp
namespace Go.Proofs.Ytpgodmcpdgbhaaa.histN
open Go.ChangeShapes Go.WideShapes Go.ChangeAt Go.RowKit
open Go.Proofs.Ytpgodmcpdgbhaaa.base Go.Proofs.Ytpgodmcpdgbhaaa.countA Go.Proofs.Ytpgodmcpdgbhaaa.countC Go.Proofs.Ytpgodmcpdgbhaaa.countE Go.Proofs.Ytpgodmcpdgbhaaa.countG Go.Proofs.Ytpgodmcpdgbhaaa.histD Go.Proofs.Ytpgodmcpdgbhaaa.histF Go.Proofs.Ytpgodmcpdgbhaaa.histI Go.Proofs.Ytpgodmcpdgbhaaa.histK Go.Proofs.Ytpgodmcpdgbhaaa.histL
set_option linter.unusedVariables false

theorem clear_hs (g : Nat) (G : List Int) (w : World) (hg : Hs g G w) :
    Calls Try.prog 23 #[.pointer (some ⟨g, 0, none⟩)] w fun e w' => e = .returned (.tuple #[]) ∧ Hs g [] w' ∧ But g w.heap.size w w' := by
  obtain ⟨cs, f, hB, hA, hS⟩ := hg
  exact (histH.clear_at g cs w hB hA.1).mono fun e w' ⟨he, cs', f', h1, h2, h3, h4⟩ => ⟨he, ⟨cs', f', h1, h2, h3⟩, h4⟩
/-- Three histograms, and all that was there. -/
structure St (w : World) (L1 L2 L3 : List Int) (W : World) : Prop where
  hx : Hs w.heap.size L1 W
  hy : Hs (w.heap.size + 1) L2 W
  hz : Hs (w.heap.size + 1 + 1) L3 W
  hb : Below w.heap.size w W
theorem St.below {w W W' : World} {L1 L2 L3 : List Int} (h : St w L1 L2 L3 W) (hb : Below W.heap.size W W') : St w L1 L2 L3 W' :=
  ⟨h.hx.below hb, h.hy.below hb, h.hz.below hb, h.hb.trans (hb.mono h.hb.size)⟩
theorem St.alloc {w W : World} {L1 L2 L3 : List Int} (h : St w L1 L2 L3 W) (o : Obj) : St w L1 L2 L3 (W.alloc o) :=
  h.below ((Below.refl _ _).alloc (Nat.le_refl _) o)
theorem St.stepX {w W W' : World} {L1 L2 L3 L : List Int} (h : St w L1 L2 L3 W) (n : Hs w.heap.size L W') (hb : But w.heap.size W.heap.size W W') : St w L L2 L3 W' :=
  ⟨n, h.hy.but hb (by omega), h.hz.but hb (by omega), hb.low h.hb (by omega) h.hb.size⟩
theorem St.stepY {w W W' : World} {L1 L2 L3 L : List Int} (h : St w L1 L2 L3 W) (n : Hs (w.heap.size + 1) L W') (hb : But (w.heap.size + 1) W.heap.size W W') : St w L1 L L3 W' :=
  ⟨h.hx.but hb (by omega), n, h.hz.but hb (by omega), hb.low h.hb (by omega) h.hb.size⟩
theorem St.stepZ {w W W' : World} {L1 L2 L3 L : List Int} (h : St w L1 L2 L3 W) (n : Hs (w.heap.size + 1 + 1) L W') (hb : But (w.heap.size + 1 + 1) W.heap.size W W') : St w L1 L2 L W' :=
  ⟨h.hx.but hb (by omega), h.hy.but hb (by omega), n, hb.low h.hb (by omega) h.hb.size⟩
theorem row_two (W : World) (x y : Value) (t : TypeId) : Row (W.alloc (.cells #[x, y] t)) (W.alloc (.cells #[x, y] t)).heap.size (some ⟨W.heap.size, 0, none⟩) [x, y] := by
  refine .inr ⟨W.heap.size, 0, rfl, by simp, fun i u hu => ?_⟩
  rw [Nat.zero_add, (Blk.new W t #[x, y]).cell i]
  match i, hu with
  | 0, hu => simpa using hu
  | 1, hu => simpa using hu
  | i + 2, hu => simp at hu
theorem row_one (W : World) (x : Value) (t : TypeId) : Row (W.alloc (.cells #[x] t)) (W.alloc (.cells #[x] t)).heap.size (some ⟨W.heap.size, 0, none⟩) [x] := by
  refine .inr ⟨W.heap.size, 0, rfl, by simp, fun i u hu => ?_⟩
  rw [Nat.zero_add, (Blk.new W t #[x]).cell i]
  match i, hu with
  | 0, hu => simpa using hu
  | i + 1, hu => simp at hu
theorem hs_perm {k : Nat} {L L' : List Int} {w : World} (h : Hs k L w) (p : L.Perm L') : Hs k L' w := by
  obtain ⟨cs, f, h1, h2, h3⟩ := h
  exact ⟨cs, f, h1, h2, h3.perm p⟩
set_option maxRecDepth 100000 in
set_option maxHeartbeats 4000000 in
theorem joins_any (A : Option Addr) (n c : Nat) (l : List Int) (A2 : Option Addr) (n2 c2 : Nat) (l2 : List Int) (part : Int) (w : World) (hl : l.length = n) (hc : n ≤ c) (hm : c ≤ 9223372036854775807) (hr : Row w w.heap.size A (l.map (.int .u64))) (hu : U64 l) (hz1 : A = none → c = 0) (hl2 : l2.length = n2) (hc2 : n2 ≤ c2) (hm2 : c2 ≤ 9223372036854775807) (hr2 : Row w w.heap.size A2 (l2.map (.int .u64))) (hu2 : U64 l2) (hz2 : A2 = none → c2 = 0) (p0 : -9223372036854775808 ≤ part) (p1 : part < 9223372036854775808) :
    Calls Try.prog 6 #[.slice A n c, .slice A2 n2 c2, .int .i64 part] w fun e w' => e = .returned (.bool true) ∧ Below w.heap.size w w' := by
  have HFEW := Lib.hid (few_any A n c w.heap.size l w hl hc hm hr hu)
  have HFEW2 := Lib.hid (few_any A2 n2 c2 w.heap.size l2 w hl2 hc2 hm2 hr2 hu2)
  obtain ⟨i0, hi0, hy0, hy1, hy2⟩ := info_parts info_u64
  have HI0 := Lib.hid hi0
  have HY0 := Lib.hid hy0
  have HY1 := Lib.hid hy1
  have HY2 := Lib.hid hy2
  have HZ1 := Lib.hid hz1
  have HZ2 := Lib.hid hz2
  have P0 := Lib.hid p0
  have P1 := Lib.hid p1
  have oneC : ∀ (l : List Int), ∀ u ∈ l.map (Value.int .u64), u.oneCell' = true := by
    intro l u hu
    rw [List.mem_map] at hu
    obtain ⟨x, _, rfl⟩ := hu
    rfl
  have ONE := Lib.hid oneC
  clear hi0 hy0 hy1 hy2 hz1 hz2 oneC p0 p1
  obtain ⟨Z, hZ0⟩ : ∃ Z : Array Value, Z = Z70 := ⟨_, rfl⟩
  have hz : ∀ w : World, (zeroValue 56).run Try.prog w = .ok (.agg Z) w := by rw [hZ0]; exact (zero_of_info zero70).1
  have ZA : At70 Z (fun _ => 0) := by rw [hZ0]; exact z70_at
  have sz : Z.size = 70 := ZA.1
  have sz2 : ¬ Z = #[] := by intro h; rw [h] at sz; cases sz
  have T0 : St w [] [] [] (((w.alloc (.cells Z 56)).alloc (.cells Z 56)).alloc (.cells Z 56)) := by
    have h1 := hs_new w Z hZ0
    have h2 := hs_new (w.alloc (.cells Z 56)) Z hZ0
    have h3 := hs_new ((w.alloc (.cells Z 56)).alloc (.cells Z 56)) Z hZ0
    rw [show (w.alloc (.cells Z 56)).heap.size = w.heap.size + 1 by simp] at h2
    rw [show ((w.alloc (.cells Z 56)).alloc (.cells Z 56)).heap.size = w.heap.size + 1 + 1 by simp] at h3
    exact ⟨(h1.alloc _).alloc _, h2.alloc _, h3, (((Below.refl _ _).alloc (Nat.le_refl _) _).alloc (by simp) _).alloc (by simp; omega) _⟩
  have HT0 := Lib.hid T0
  clear hl hc hm hr hu hl2 hc2 hm2 hr2 hu2 hZ0 ZA T0
  go_enter Try.func6, Try.ntmps6
  go_wp2_with fail
  refine HFEW.out.mono ?_
  rintro e w' ⟨m, S, rfl, rfl, hl, hm, hmc, hr, hu⟩
  go_wp2_with fail
  refine HFEW2.out.mono ?_
  rintro e w' ⟨m2, S2, rfl, rfl, hl2, hm2, hmc2, hr2, hu2⟩
  have HL := Lib.hid hl
  have HR := Lib.hid hr
  have HU := Lib.hid hu
  have HL2 := Lib.hid hl2
  have HR2 := Lib.hid hr2
  have HU2 := Lib.hid hu2
  clear hl hr hu hl2 hr2 hu2
  go_wp2_with fail
  clear hz sz sz2
  generalize (((w.alloc (.cells Z 56)).alloc (.cells Z 56)).alloc (.cells Z 56)) = W0 at *
  refine (add_hs w.heap.size w.heap.size A m c S W0 HL.out (by omega) HU.out (HR.out.below HT0.out.hb) (Nat.le_refl _) HT0.out.hx).mono ?_
  rintro e W1 ⟨rfl, h1, b1⟩
  have HT1 := Lib.hid (HT0.out.stepX h1 b1)
  clear h1 b1
  go_wp2_with fail
  refine (add_hs (w.heap.size + 1) w.heap.size A2 m2 c2 S2 W1 HL2.out (by omega) HU2.out (HR2.out.below HT1.out.hb) (by omega) HT1.out.hy).mono ?_
  rintro e W2 ⟨rfl, h1, b1⟩
  have HT2 := Lib.hid (HT1.out.stepY h1 b1)
  clear h1 b1
  go_wp2_with fail
  have T2 := HT2.out.alloc (.cells #[.pointer (some ⟨w.heap.size + 1, 0, none⟩), .pointer (some ⟨w.heap.size, 0, none⟩)] 50)
  refine (join_list (w.heap.size + 1 + 1) 2 2 _ [(w.heap.size + 1, S2), (w.heap.size, S)] [] _ rfl (by omega) (row_two _ _ _ _) (by intro p hp; simp at hp; rcases hp with rfl | rfl; exact T2.hy; exact T2.hx) (by intro p hp; simp at hp; rcases hp with rfl | rfl; exact HU2.out; exact HU.out) (by intro p hp; simp at hp; rcases hp with rfl | rfl; (have := HL2.out; show S2.length ≤ 100; omega); (have := HL.out; show S.length ≤ 100; omega)) T2.hz (fun x hx => by cases hx) (by simp)).mono ?_
  rintro e W3 ⟨rfl, h1, b1⟩
  have HT3 := Lib.hid (show St w S S2 (S2 ++ S) W3 from T2.stepZ (by simpa [flat] using h1) b1)
  clear h1 b1 T2
  go_wp2_with fail
  have T3 := HT3.out.alloc (.cells #[.pointer (some ⟨w.heap.size + 1, 0, none⟩)] 50)
  refine (join_list w.heap.size 1 1 _ [(w.heap.size + 1, S2)] S _ rfl (by omega) (row_one _ _ _) (by intro p hp; simp at hp; rcases hp with rfl; exact T3.hy) (by intro p hp; simp at hp; rcases hp with rfl; exact HU2.out) (by intro p hp; simp at hp; rcases hp with rfl; have := HL2.out; show S2.length ≤ 100; omega) T3.hx HU.out (by have := HL.out; omega)).mono ?_
  rintro e W4 ⟨rfl, h1, b1⟩
  have HT4 := Lib.hid (show St w (S ++ S2) S2 (S2 ++ S) W4 from T3.stepX (by simpa [flat] using h1) b1)
  clear h1 b1 T3
  have HLIT := Lib.hid (show (W4.alloc (.cells #[] 51)).ownsRow W4.heap.size 51 1 (.slice (some ⟨W4.heap.size, 0, none⟩) 0 0) 0 [] from World.ownsRow_lit W4 #[] 0 (Nat.le_refl _) (by unfold maxLen; omega) rfl)
  have HV := Lib.hid ((Below.refl W4.heap.size W4).alloc (Nat.le_refl _) (.cells #[] 51))
  go_wp2_with (first
    | (at_builtin; refine wpList_append_row rfl (.tmp 37) (.tmp 38) _ rfl W4.heap.size 51 i0 _ 8 Try.underlying48 HI0.out HY0.out HY1.out HY2.out rfl (.slice (some ⟨W4.heap.size, 0, none⟩) 0 0) 0 [] rfl HLIT.out A m c w.heap.size (S.map (.int .u64)) rfl HZ1.out (by rw [List.length_map]; exact HL.out) ((HR.out.below HT4.out.hb).below (HV.out.mono HT4.out.hb.size)) (ONE.out _) (by unfold maxLen; omega) (by omega) (by simp) ?_; intro va wa owna ga; have HOa := Lib.hid owna; have HBa := Lib.hid (below_grown HV.out HLIT.out (Nat.le_refl _) (by simp) ga); clear owna ga)
    | (at_builtin; have hsa := HBa.out.size; refine wpList_append_row rfl (.tmp 39) (.tmp 40) _ rfl W4.heap.size 51 i0 _ 8 Try.underlying48 HI0.out HY0.out HY1.out HY2.out rfl va (0 + m) _ rfl HOa.out A2 m2 c2 w.heap.size (S2.map (.int .u64)) rfl HZ2.out (by rw [List.length_map]; exact HL2.out) ((HR2.out.below HT4.out.hb).below (HBa.out.mono HT4.out.hb.size)) (ONE.out _) (by unfold maxLen; omega) (by omega) hsa ?_; intro vb wb ownb gb_; have HOb := Lib.hid ownb; have HBb := Lib.hid (below_grown HBa.out HOa.out (Nat.le_refl _) hsa gb_); clear ownb gb_))
  have ob := HOb.out
  obtain ⟨Ab, cb, rfl⟩ := own_slice ob
  have rb : Row wb wb.heap.size Ab ((S ++ S2).map (.int .u64)) := by simpa using own_row ob
  clear ob
  refine (sorted_any Ab (0 + m + m2) cb (S ++ S2) wb (by rw [List.length_append, HL.out, HL2.out]; omega) (by omega) rb).mono ?_
  rintro e W5 ⟨g5, T, rfl, l5, p5, s5, r5, b5⟩
  have HT5 := Lib.hid (((HT4.out.below HBb.out).below b5))
  have L5 := Lib.hid l5
  have P5 := Lib.hid p5
  have S5 := Lib.hid s5
  have R5 := Lib.hid r5
  have U5 := Lib.hid ((HU.out.app HU2.out).perm p5.symm)
  clear l5 p5 s5 r5 b5 rb
  rw [show 0 + m + m2 = m + m2 by omega] at *
  generalize hk : m + m2 = k at *
  have k5 : k ≤ 500 := by omega
  clear hk
  go_wp2_with fail
  refine (alike_any w.heap.size k k _ T part W5 (hs_perm HT5.out.hx P5.out.symm) U5.out S5.out L5.out k5 R5.out P0.out P1.out).mono ?_
  rintro e W6 ⟨rfl, b6⟩
  have HT6 := Lib.hid (HT5.out.below b6)
  have R6 := Lib.hid ((R5.out.below b6).more b6.size)
  clear b6
  go_wp2_with fail
  refine (alike_any (w.heap.size + 1 + 1) k k _ T part W6 (hs_perm HT6.out.hz (List.perm_append_comm.trans P5.out.symm)) U5.out S5.out L5.out k5 R6.out P0.out P1.out).mono ?_
  rintro e W7 ⟨rfl, b7⟩
  have HT7 := Lib.hid (HT6.out.below b7)
  clear b7
  go_wp2_with fail
  refine (sorted_any A2 m2 c2 S2 W7 HL2.out (by omega) ((HR2.out.below HT7.out.hb).more HT7.out.hb.size)).mono ?_
  rintro e W8 ⟨g8, T8, rfl, l8, p8, s8, r8, b8⟩
  have HT8 := Lib.hid (HT7.out.below b8)
  have HAL := Lib.hid (alike_any (w.heap.size + 1) m2 m2 _ T8 part W8 (hs_perm HT8.out.hy p8.symm) (HU2.out.perm p8.symm) s8 l8 (by omega) r8 P0.out P1.out)
  clear l8 p8 s8 r8 b8
  go_wp2_with fail
  refine HAL.out.mono ?_
  rintro e W9 ⟨rfl, b9⟩
  have HT9 := Lib.hid (HT8.out.below b9)
  clear b9
  go_wp2_with fail
  refine (clear_hs w.heap.size _ W9 HT9.out.hx).mono ?_
  rintro e W10 ⟨rfl, h10, b10⟩
  have HT10 := Lib.hid (HT9.out.stepX h10 b10)
  clear h10 b10
  go_wp2_with fail
  refine (alike_any w.heap.size 0 0 none [] part W10 HT10.out.hx (fun x hx => by cases hx) List.Pairwise.nil rfl (by omega) (.inl rfl) P0.out P1.out).mono ?_
  rintro e W11 ⟨rfl, b11⟩
  have HB11 := Lib.hid (HT10.out.below b11).hb
  clear b11
  go_wp2_with (go_at_call 21; refine (histB.awake_any _).mono ?_; rintro e w' ⟨rfl, rfl⟩)
  go_ret
  exact ⟨rfl, HB11.out⟩
end Go.Proofs.Ytpgodmcpdgbhaaa.histN
