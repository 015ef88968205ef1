/- Layer 36: a file that is read. -/
import Derived.Test.YtmchedjeohhpcaaPcapM
namespace Go.Proofs.Ytmchedjeohhpcaa.pcapN
open Go.ChangeShapes Go.WideShapes Go.ChangeAt Go.RowKit
open Go.Proofs.Ytmchedjeohhpcaa.base Go.Proofs.Ytmchedjeohhpcaa.pcapA Go.Proofs.Ytmchedjeohhpcaa.pcapB Go.Proofs.Ytmchedjeohhpcaa.pcapC Go.Proofs.Ytmchedjeohhpcaa.pcapD Go.Proofs.Ytmchedjeohhpcaa.pcapE Go.Proofs.Ytmchedjeohhpcaa.pcapF Go.Proofs.Ytmchedjeohhpcaa.pcapG Go.Proofs.Ytmchedjeohhpcaa.pcapI Go.Proofs.Ytmchedjeohhpcaa.pcapJ Go.Proofs.Ytmchedjeohhpcaa.pcapK Go.Proofs.Ytmchedjeohhpcaa.pcapL Go.Proofs.Ytmchedjeohhpcaa.pcapM
set_option linter.unusedVariables false

theorem slice_to (b off n c t : Nat) (ht : t ≤ c) (hc : 0 < c) :
    (∀ W : World, (Instr.slice 27 (.slice (some ⟨b, off, none⟩) n c) none (some (.int .i64 (t : Int))) none).run Try.prog W = .ok (.slice (some ⟨b, off, none⟩) t c) W) ∧
    (∀ W : World, (Instr.sliceAt 27 (.slice (some ⟨b, off, none⟩) n c) none (some (.int .i64 (t : Int))) none).run Try.prog W = .ok (.slice (some ⟨b, off, none⟩) t c) W) := by
  have hu : Try.prog.underlying 27 = some (.slice (Try.prog.elem 27)) := by kernel_rfl
  have hz : ∀ W : World, (sizeOf (Try.prog.elem 27)).run Try.prog W = .ok 1 W := fun _ => by kernel_rfl
  have key : ∀ W : World, (Instr.slice 27 (.slice (some ⟨b, off, none⟩) n c) none (some (.int .i64 (t : Int))) none).run Try.prog W = .ok (.slice (some ⟨b, off, none⟩) t c) W := by
    intro W
    rw [run_slice_h W 27 (some ⟨b, off, none⟩) n c hu .i64 (t : Int) (by omega) (by omega), hz]
    simp only [Result.andThen, sliced, Int.toNat_natCast, Nat.mul_one, Option.map_some, Nat.sub_zero, Addr.add_lit, Nat.add_zero]
    split <;> rfl
  exact ⟨key, fun W => by rw [run_sliceAt_slice W 27 _ _ _ _ hu, key]⟩
theorem set_oth {w : World} {f i j : Nat} {u v : Value} (h : w.cell? ⟨f, j, none⟩ = some v) (hij : i ≠ j) : (w.setCell ⟨f, i, none⟩ u).cell? ⟨f, j, none⟩ = some v := by
  rw [World.cell?_setCell_other _ _ _ _ (by intro e; injection e with _ e2 _; first | exact hij e2 | exact hij e2.symm)]
  exact h
def headZ (big : Bool) : List Int := (headB big 0 0).take 16
theorem info_rec : (Try.prog.info? 38).map (fun i => (i.zero, i.size, i.bytes)) = some (some (.agg #[.int .u32 0, .int .u32 0, .int .u32 0, .slice none 0 0]), 4, 40) := by kernel_rfl
theorem own_sliceN {w : World} {base e s : Nat} {v : Value} {n : Nat} {xs : List Value} (h : w.ownsRow base e s v n xs) : ∃ A c, v = .slice A n c := by
  rcases h.2 with ⟨rfl, h0⟩ | ⟨g, cap, cur, rfl, _⟩
  · exact ⟨_, _, by rw [h0]⟩
  · exact ⟨_, _, rfl⟩
def lenV : Value → Nat
  | .slice _ n _ => n
  | _ => 0
/-- What holds as records are read. -/
def StR (w : World) (f : Nat) (big : Bool) (sn link : Nat) (l : List Int) (left : Value) (wr : World) : Prop :=
  ∃ (x : List Int) (AX : Option Addr) (c' : Nat) (m : List Rc) (rv : Value), left = .slice AX x.length c' ∧ x.length ≤ c' ∧ c' ≤ 9223372036854775807 ∧ Byte x ∧ x.length + 16 * m.length ≤ 5000 ∧ Row wr w.heap.size AX (x.map (.int .u8)) ∧ Recs wr w.heap.size rv m ∧
    Blk wr f 25 #[.bool big, .int .u32 (sn : Int), .int .u32 (link : Int), rv] ∧ Blk wr w.heap.size 25 fileZ ∧ Below w.heap.size w wr ∧ (∀ e ∈ m, e.ok) ∧ (∀ e ∈ m, e.n ≤ 65536) ∧ dec big (l.drop 24) = (dec big x).map (fun t => m.map Rc.re ++ t)
def ReadPost (big : Bool) (sn link : Nat) (l : List Int) (w : World) (o : Ending) (w' : World) : Prop :=
  Below w.heap.size w w' ∧ ((l.take 16 ≠ headZ big ∧ o = .returned (.tuple #[.agg fileZ, .int .i64 10])) ∨ (l.take 16 = headZ big ∧ dec big (l.drop 24) = none ∧ o = .returned (.tuple #[.agg fileZ, .int .i64 2])) ∨
    (l.take 16 = headZ big ∧ ∃ A c m, dec big (l.drop 24) = some (m.map Rc.re) ∧ RdR w' A m ∧ (∀ e ∈ m, Has w' e) ∧ (∀ e ∈ m, e.ok) ∧ m.length ≤ c ∧ c ≤ 9223372036854775807 ∧ m.length ≤ 4096 ∧
      ((rightB sn m = true ∧ o = .returned (.tuple #[.agg #[.bool big, .int .u32 (sn : Int), .int .u32 (link : Int), .slice A m.length c], .int .i64 0])) ∨ (rightB sn m = false ∧ o = .returned (.tuple #[.agg fileZ, .int .i64 5])))))
set_option maxHeartbeats 4000000 in
set_option maxRecDepth 100000 in
theorem read_main (big : Bool) (A : Option Addr) (n c : Nat) (l : List Int) (w : World) (hl : l.length = n) (hn : n ≤ 5000) (h24 : 24 ≤ n) (hc1 : n ≤ c) (hc2 : c ≤ 9223372036854775807) (hr : Row w w.heap.size A (l.map (.int .u8))) (hb : Byte l) (h1 : (((ordN true (wAt l 0) : Nat) : Int) == 2712847316) = big) (h2 : ordN big (wAt l 0) = 2712847316) :
    Calls Try.prog 11 #[.slice A n c] w (ReadPost big (ordN big (wAt l 16)) (ordN big (wAt l 20)) l w) := by
  have t1 : decide ((n : Int) < 24) = false := decide_eq_false (by omega)
  obtain ⟨g, off, rfl, _⟩ := hr.at_ (by intro h; rw [List.map_eq_nil_iff] at h; subst h; simp at hl; omega)
  have HC0 := Lib.hid (show ∀ big W, Below w.heap.size w W → Calls Try.prog 19 #[.slice (some ⟨g, off, none⟩) n c, .bool big, .int .i64 0] W fun e w' => e = .returned (.int .u32 ((ordN big (wAt l 0) : Nat) : Int)) ∧ Below W.heap.size W w' from fun big W hb2 => word_bel big g off c 0 n l w.heap.size W hl (hr.below hb2) hb (by omega) (by omega))
  have HC16 := Lib.hid (show ∀ W, Below w.heap.size w W → Calls Try.prog 19 #[.slice (some ⟨g, off, none⟩) n c, .bool big, .int .i64 16] W fun e w' => e = .returned (.int .u32 ((ordN big (wAt l 16) : Nat) : Int)) ∧ ∃ q, w' = W.drewN q from fun W hb2 => word_at big g off c 16 n l w.heap.size W hl (hr.below hb2) hb (by omega) (by omega))
  have HC20 := Lib.hid (show ∀ W, Below w.heap.size w W → Calls Try.prog 19 #[.slice (some ⟨g, off, none⟩) n c, .bool big, .int .i64 20] W fun e w' => e = .returned (.int .u32 ((ordN big (wAt l 20) : Nat) : Int)) ∧ ∃ q, w' = W.drewN q from fun W hb2 => word_at big g off c 20 n l w.heap.size W hl (hr.below hb2) hb (by omega) (by omega))
  have HSN := Lib.hid (ordN_lt big (wAt_lt hb 16))
  have HLK := Lib.hid (ordN_lt big (wAt_lt hb 20))
  have t3 : (((ordN big (wAt l 0) : Nat) : Int) != 2712847316) = false := by rw [h2]; rfl
  have HC1 := Lib.hid (HC0.out true)
  have HC2 := Lib.hid (HC0.out big)
  obtain ⟨a, ha⟩ : ∃ a, a = ordN true (wAt l 0) := ⟨_, rfl⟩
  obtain ⟨b, hb3⟩ : ∃ b, b = ordN big (wAt l 0) := ⟨_, rfl⟩
  obtain ⟨sn, hsn⟩ : ∃ sn, sn = ordN big (wAt l 16) := ⟨_, rfl⟩
  obtain ⟨link, hlk⟩ : ∃ link, link = ordN big (wAt l 20) := ⟨_, rfl⟩
  rw [← ha] at h1 HC1
  rw [← hb3] at t3 HC2
  rw [← hsn] at HC16 HSN ⊢
  rw [← hlk] at HC20 HLK ⊢
  have B0 := Lib.hid (show Below w.heap.size w (w.alloc (.cells #[.bool false, .int .u32 0, .int .u32 0, .slice none 0 0] 25)) from (Below.refl w.heap.size w).alloc (Nat.le_refl _) _)
  have K0 := Lib.hid (Blk.new w 25 #[.bool false, .int .u32 0, .int .u32 0, .slice none 0 0])
  have HH := Lib.hid (show ∀ W, Calls Try.prog 15 #[.agg #[.bool big, .int .u32 0, .int .u32 0, .slice none 0 0]] W (HeadPost W 24 (headB big 0 0)) from fun W => head_any big 0 0 (.slice none 0 0) W (by decide) (by decide))
  have HR := Lib.hid hr
  have HL := Lib.hid hl
  have HBY := Lib.hid hb
  have HT := Lib.hid (slice_to g off n c 16 (by omega) (by omega))
  clear hr hb hl h2 ha hb3 hsn hlk HC0
  go_enter Try.func11, Try.ntmps11
  go_wp2_with fail
  refine (HC1.out _ B0.out).mono ?_
  rintro o w1 ⟨rfl, hb1⟩
  have B1 := Lib.hid (B0.out.trans (hb1.mono B0.out.size))
  have K1 := Lib.hid (K0.out.below hb1 K0.out.lt)
  have F1 := Lib.hid (Blk.new w1 25 #[.bool big, .int .u32 0, .int .u32 0, .slice none 0 0])
  have B1a := Lib.hid (B1.out.alloc B1.out.size (.cells #[.bool big, .int .u32 0, .int .u32 0, .slice none 0 0] 25))
  have HLT := Lib.hid (show w.heap.size < w1.heap.size from K1.out.lt)
  clear hb1
  go_wp2_with fail
  refine (HC2.out _ B1a.out).mono ?_
  rintro o w2 ⟨rfl, hb2⟩
  have B2 := Lib.hid (B1a.out.trans (hb2.mono B1a.out.size))
  have K2 := Lib.hid ((K1.out.alloc (.cells #[.bool big, .int .u32 0, .int .u32 0, .slice none 0 0] 25)).below hb2 (K1.out.alloc _).lt)
  have F2 := Lib.hid (F1.out.below hb2 F1.out.lt)
  clear hb2
  obtain ⟨f, hf⟩ : ∃ f, f = w1.heap.size := ⟨_, rfl⟩
  rw [← hf] at F2 HLT ⊢
  have HFR := Lib.hid (show ∀ W, Below w2.heap.size w2 W → W.cell? ⟨f, 0, none⟩ = some (.bool big) ∧ W.cell? ⟨f, 1, none⟩ = some (.int .u32 0) ∧ W.cell? ⟨f, 2, none⟩ = some (.int .u32 0) ∧ W.cell? ⟨f, 3, none⟩ = some (.slice none 0 0) from fun W hW => by
    have k := F2.out.below hW F2.out.lt
    exact ⟨k.cell 0, k.cell 1, k.cell 2, k.cell 3⟩)
  have s0 := HFR.out _ (Below.refl _ _).drew
  have r1 : ∀ W : World, (Instr.slice 27 (.slice (some ⟨g, off, none⟩) n c) none (some (.int .i64 16)) none).run Try.prog W = .ok (.slice (some ⟨g, off, none⟩) 16 c) W := HT.out.1
  have r2 : ∀ W : World, (Instr.sliceAt 27 (.slice (some ⟨g, off, none⟩) n c) none (some (.int .i64 16)) none).run Try.prog W = .ok (.slice (some ⟨g, off, none⟩) 16 c) W := HT.out.2
  have HEQ := Lib.hid (show ∀ (W : World) (g2 c2 : Nat), Below w.heap.size w W → W.ownsRow w2.heap.size 5 1 (.slice (some ⟨g2, 0, none⟩) 24 c2) 24 ((headB big 0 0).map (.int .u8)) → Calls Try.prog 20 #[.slice (some ⟨g, off, none⟩) 16 c, .slice (some ⟨g2, 0, none⟩) 16 c2] W fun o w' => o = .returned (.bool (decide (l.take 16 = headZ big))) ∧ W = w' from fun W g2 c2 hW ho => by
    have hrow := (own_row ho).take 16
    rw [← List.map_take] at hrow
    have hrow2 := (HR.out.below hW).take 16
    rw [← List.map_take] at hrow2
    refine equal_any _ _ 16 c 16 c2 _ _ (l.take 16) (headZ big) W hrow2 hrow (by rw [List.length_take, HL.out]; omega) (by cases big <;> rfl) (HBY.out.take 16) ?_
    cases big <;> (unfold headZ Byte; decide))
  obtain ⟨z, hz⟩ : ∃ z, z = decide (l.take 16 = headZ big) := ⟨_, rfl⟩
  rw [← hz] at HEQ
  have HZ := Lib.hid hz
  clear hf hz
  go_upto_region 7 with fail
  go_cut [29] (fun v wx => v = .bool (!z) ∧ Below w2.heap.size w2 wx)
  case first =>
    go_wp2_with fail
    go_region_held3 (fun w' => w'.cell? ⟨f, 0, none⟩ = some (.bool big) ∧ w'.cell? ⟨f, 1, none⟩ = some (.int .u32 0) ∧ w'.cell? ⟨f, 2, none⟩ = some (.int .u32 0) ∧ w'.cell? ⟨f, 3, none⟩ = some (.slice none 0 0)) (first | with_reducible assumption)
      (first
        | (go_at_call 15
           (with_reducible refine (HH.out _).mono ?_)
           rintro o w4 ⟨v4, rfl, ho4, hb4, hs4⟩
           obtain ⟨g2, c2, rfl, _, _, hc24, _, _⟩ := own_form ho4 (by decide)
           have BB4 := Lib.hid (show Below w2.heap.size w2 w4 from (Below.refl w2.heap.size w2).drew.trans hb4)
           have HO4 := Lib.hid (show w4.ownsRow w2.heap.size 5 1 (.slice (some ⟨g2, 0, none⟩) 24 c2) 24 ((headB big 0 0).map (.int .u8)) from ho4)
           have s4 := HFR.out _ BB4.out
           have HT4 := slice_to g2 0 24 c2 16 (by omega) (by omega)
           have r3 : ∀ W : World, (Instr.slice 27 (.slice (some ⟨g2, 0, none⟩) 24 c2) none (some (.int .i64 16)) none).run Try.prog W = .ok (.slice (some ⟨g2, 0, none⟩) 16 c2) W := HT4.1
           have r4 : ∀ W : World, (Instr.sliceAt 27 (.slice (some ⟨g2, 0, none⟩) 24 c2) none (some (.int .i64 16)) none).run Try.prog W = .ok (.slice (some ⟨g2, 0, none⟩) 16 c2) W := HT4.2
           clear HT4 ho4 hb4 hs4)
        | (go_at_call 20
           (with_reducible refine (HEQ.out w4 g2 c2 (B2.out.trans (BB4.out.mono B2.out.size)) HO4.out).mono ?_)
           rintro o w5 ⟨rfl, rfl⟩))
    all_goals (go_wp2_with fail; go_meet; exact ⟨rfl, BB4.out⟩)
  case rest =>
    obtain ⟨rfl, BC⟩ := hcut
    have BW := B2.out.trans (BC.mono B2.out.size)
    have KC := K2.out.below BC K2.out.lt
    have FC := F2.out.below BC F2.out.lt
    clear BC s0 r1 r2 HEQ HC1 HC2 HFR F1 F2 K1 K2 B1 B1a B2 K0 HH
    cases z with
    | false =>
      have HNE := Lib.hid (show l.take 16 ≠ headZ big from fun h => by have := HZ.out; rw [decide_eq_true h] at this; cases this)
      have z0 := KC.cell 0
      have z1 := KC.cell 1
      have z2 := KC.cell 2
      have z3 := KC.cell 3
      have y0 := KC.frozen 0
      have y1 := KC.frozen 1
      have y2 := KC.frozen 2
      have y3 := KC.frozen 3
      have KR := Lib.hid (show Blk ((((wc.setCell ⟨w.heap.size, 0, none⟩ (.bool false)).setCell ⟨w.heap.size, 1, none⟩ (.int .u32 0)).setCell ⟨w.heap.size, 2, none⟩ (.int .u32 0)).setCell ⟨w.heap.size, 3, none⟩ (.slice none 0 0)) w.heap.size 25 #[.bool false, .int .u32 0, .int .u32 0, .slice none 0 0] from (((KC.set_ 0 _).set_ 1 _).set_ 2 _).set_ 3 _)
      have BR := Lib.hid ((((BW.setCell (p := ⟨w.heap.size, 0, none⟩) (Nat.le_refl _) (.bool false)).setCell (p := ⟨w.heap.size, 1, none⟩) (Nat.le_refl _) (.int .u32 0)).setCell (p := ⟨w.heap.size, 2, none⟩) (Nat.le_refl _) (.int .u32 0)).setCell (p := ⟨w.heap.size, 3, none⟩) (Nat.le_refl _) (.slice none 0 0))
      clear KC BW FC
      go_wp2_with fail
      exact bodyPost_ret (results_file rfl _ _ w.heap.size fileZ rfl KR.out rfl) rfl ⟨BR.out, .inl ⟨HNE.out, rfl⟩⟩
    | true =>
      have HEQ := Lib.hid (show l.take 16 = headZ big from of_decide_eq_true HZ.out.symm)
      have HKC := Lib.hid KC
      have HFC := Lib.hid FC
      have HBW := Lib.hid BW
      clear KC FC BW HZ
      go_upto_region 8 with fail
      go_cut [39] (fun v wx => Blk wx f 25 #[.bool big, .int .u32 (sn : Int), .int .u32 (link : Int), .slice none 0 0] ∧ Blk wx w.heap.size 25 fileZ ∧ Below w.heap.size w wx)
      case first =>
        have s0 := HFC.out.cell 0
        have s1 := HFC.out.cell 1
        have s2 := HFC.out.cell 2
        have y1 := HFC.out.frozen 1
        have y2 := HFC.out.frozen 2
        go_region_held3 (fun w' => w'.cell? ⟨f, 0, none⟩ = some (.bool big)) (first | with_reducible assumption | exact s0 | exact set_oth s0 (by decide) | exact set_oth (set_oth s0 (by decide)) (by decide))
          (first
            | (go_at_call 19
               (first
                 | (with_reducible refine (HC16.out _ (by (repeat (first | with_reducible exact HBW.out | apply below_drewN | apply bel_drew)))).mono ?_)
                 | (with_reducible refine (HC20.out _ (by (repeat (first | with_reducible exact HBW.out | apply below_drewN | apply bel_drew)))).mono ?_))
               rintro o w3 ⟨rfl, q, rfl⟩))
        all_goals
          generalize hw5 : World.setCell _ ⟨f, 2, none⟩ _ = w5
          have KE : Blk w5 f 25 #[.bool big, .int .u32 (sn : Int), .int .u32 (link : Int), .slice none 0 0] := by
            rw [← hw5]
            exact ((HFC.out.drewN _).set_ 1 _).set_ 2 _
          have KD : Blk w5 w.heap.size 25 fileZ := by
            rw [← hw5]
            have := HLT.out
            exact ((HKC.out.drewN _).far (show w.heap.size ≠ f by omega) _).far (show w.heap.size ≠ f by omega) _
          have BD : Below w.heap.size w w5 := by
            rw [← hw5]
            have := HLT.out
            exact ((below_drewN HBW.out _).setCell (show w.heap.size ≤ f by omega) _).setCell (show w.heap.size ≤ f by omega) _
          clear hw5 s0 s1 s2 y1 y2
          go_wp2_with fail
          go_meet
          exact ⟨KE, KD, BD⟩
      case rest =>
        obtain ⟨FD, KD, BD⟩ := hcut
        obtain ⟨AX, hAX, HS1, HS2, HS3⟩ := slice_from g off n c 24 h24 hc1
        have r1 : ∀ W : World, (Instr.slice 27 (.slice (some ⟨g, off, none⟩) n c) (some (.int .i64 24)) none none).run Try.prog W = .ok (.slice AX (n - 24) (c - 24)) W := HS1
        have r2 : ∀ W : World, (Instr.sliceAt 27 (.slice (some ⟨g, off, none⟩) n c) (some (.int .i64 24)) none none).run Try.prog W = .ok (.slice AX (n - 24) (c - 24)) W := HS2
        have HS := Lib.hid (show StR w f big sn link l (.slice AX (n - 24) (c - 24)) wc from by
          have hll : (l.drop 24).length = n - 24 := by rw [List.length_drop, HL.out]
          refine ⟨l.drop 24, AX, c - 24, [], .slice none 0 0, by rw [hll], by omega, by omega, HBY.out.drop 24, by rw [hll]; simp; omega, HS3 wc w.heap.size l HL.out (HR.out.below BD), ⟨World.ownsRow_nil _ _ _ _, by simp⟩, FD, KD, BD, by simp, by simp, ?_⟩
          cases dec big (l.drop 24) <;> simp)
        clear FD KD BD HS1 HS2 HS3 hAX
        go_wp2_with fail
        go_loopw [5] (fun left wr => Hid (StR w f big sn link l left wr)) (fun left _ => lenV left)
        case atStart => exact HS
        case round =>
          obtain ⟨x, AY, cy, m, rv, rfl, hxc, hcy, hxb, hx5, hrow, hrecs, hfb, hrb, hbel, hok, hn6, hdec⟩ := hrel.out
          obtain ⟨AR, cR, rfl, hmc, hcR⟩ := hrecs.slice
          clear r1 r2
          by_cases hx0 : x = []
          · subst hx0
            have c0 := hfb.cell 0
            have c1 := hfb.cell 1
            have c2 := hfb.cell 2
            have c3 := hfb.cell 3
            have HRT := Lib.hid (right_any big sn link AR cR m wr HSN.out hrecs.rd hok (by omega) hmc hcR)
            have HFB := Lib.hid hfb
            have HRB := Lib.hid hrb
            have HRE := Lib.hid hrecs
            have HBE := Lib.hid hbel
            have HOK := Lib.hid hok
            have HN6 := Lib.hid hn6
            have HDE := Lib.hid (show dec big (l.drop 24) = some (m.map Rc.re) from by rw [hdec, dec_nil]; simp)
            clear hfb hrb hrecs hbel hok hn6 hdec hrel hrow
            obtain ⟨k, hk⟩ : ∃ k, k = m.length := ⟨_, rfl⟩
            have HKM := Lib.hid hk
            rw [← hk] at c3 HRT HFB hmc hx5
            rw [← hk] at HRE
            clear hk
            go_wp2_with fail
            refine HRT.out.mono ?_
            rintro o w6 ⟨rfl, hb6⟩
            have KC : Blk w6 w.heap.size 25 #[.bool false, .int .u32 0, .int .u32 0, .slice none 0 0] := HRB.out.below hb6 HRB.out.lt
            have FC := HFB.out.below hb6 HFB.out.lt
            have BW := HBE.out.trans (hb6.mono HBE.out.size)
            have RC := HRE.out.below hb6
            obtain ⟨z, hz⟩ : ∃ z, z = rightB sn m := ⟨_, rfl⟩
            rw [← hz]
            have HZ := Lib.hid hz.symm
            clear hb6 hz HRT
            cases z with
            | false =>
              have z0 := KC.cell 0
              have z1 := KC.cell 1
              have z2 := KC.cell 2
              have z3 := KC.cell 3
              have y0 := KC.frozen 0
              have y1 := KC.frozen 1
              have y2 := KC.frozen 2
              have y3 := KC.frozen 3
              have KR := Lib.hid (show Blk ((((w6.setCell ⟨w.heap.size, 0, none⟩ (.bool false)).setCell ⟨w.heap.size, 1, none⟩ (.int .u32 0)).setCell ⟨w.heap.size, 2, none⟩ (.int .u32 0)).setCell ⟨w.heap.size, 3, none⟩ (.slice none 0 0)) w.heap.size 25 #[.bool false, .int .u32 0, .int .u32 0, .slice none 0 0] from (((KC.set_ 0 _).set_ 1 _).set_ 2 _).set_ 3 _)
              have BR := Lib.hid ((((BW.setCell (p := ⟨w.heap.size, 0, none⟩) (Nat.le_refl _) (.bool false)).setCell (p := ⟨w.heap.size, 1, none⟩) (Nat.le_refl _) (.int .u32 0)).setCell (p := ⟨w.heap.size, 2, none⟩) (Nat.le_refl _) (.int .u32 0)).setCell (p := ⟨w.heap.size, 3, none⟩) (Nat.le_refl _) (.slice none 0 0))
              have HHs := Lib.hid (fun e he => (((((RC.set_ KC (by decide) (by decide) 0 (.bool false)).set_ (KC.set_ 0 _) (by decide) (by decide) 1 (.int .u32 0)).set_ ((KC.set_ 0 _).set_ 1 _) (by decide) (by decide) 2 (.int .u32 0)).set_ (((KC.set_ 0 _).set_ 1 _).set_ 2 _) (by decide) (by decide) 3 (.slice none 0 0)).has e he (HN6.out e he)))
              have HRd := Lib.hid (((((RC.set_ KC (by decide) (by decide) 0 (.bool false)).set_ (KC.set_ 0 _) (by decide) (by decide) 1 (.int .u32 0)).set_ ((KC.set_ 0 _).set_ 1 _) (by decide) (by decide) 2 (.int .u32 0)).set_ (((KC.set_ 0 _).set_ 1 _).set_ 2 _) (by decide) (by decide) 3 (.slice none 0 0)).rd)
              clear KC BW FC RC
              go_wp2_with fail
              refine bodyPost_ret (results_file rfl _ _ w.heap.size fileZ rfl KR.out rfl) rfl ⟨BR.out, .inr (.inr ⟨HEQ.out, AR, cR, m, HDE.out, HRd.out, HHs.out, HOK.out, HKM.out ▸ hmc, hcR, by rw [← HKM.out]; omega, .inr ⟨HZ.out, rfl⟩⟩)⟩
            | true =>
              have f0 := FC.cell 0
              have f1 := FC.cell 1
              have f2 := FC.cell 2
              have f3 := FC.cell 3
              have z0 := KC.cell 0
              have z1 := KC.cell 1
              have z2 := KC.cell 2
              have z3 := KC.cell 3
              have y0 := KC.frozen 0
              have y1 := KC.frozen 1
              have y2 := KC.frozen 2
              have y3 := KC.frozen 3
              have KR := Lib.hid (show Blk ((((w6.setCell ⟨w.heap.size, 0, none⟩ (.bool big)).setCell ⟨w.heap.size, 1, none⟩ (.int .u32 (sn : Int))).setCell ⟨w.heap.size, 2, none⟩ (.int .u32 (link : Int))).setCell ⟨w.heap.size, 3, none⟩ (.slice AR k cR)) w.heap.size 25 #[.bool big, .int .u32 (sn : Int), .int .u32 (link : Int), .slice AR k cR] from (((KC.set_ 0 _).set_ 1 _).set_ 2 _).set_ 3 _)
              have BR := Lib.hid ((((BW.setCell (p := ⟨w.heap.size, 0, none⟩) (Nat.le_refl _) (.bool big)).setCell (p := ⟨w.heap.size, 1, none⟩) (Nat.le_refl _) (.int .u32 (sn : Int))).setCell (p := ⟨w.heap.size, 2, none⟩) (Nat.le_refl _) (.int .u32 (link : Int))).setCell (p := ⟨w.heap.size, 3, none⟩) (Nat.le_refl _) (.slice AR k cR))
              have HHs := Lib.hid (fun e he => (((((RC.set_ KC (by decide) (by decide) 0 (.bool big)).set_ (KC.set_ 0 _) (by decide) (by decide) 1 (.int .u32 (sn : Int))).set_ ((KC.set_ 0 _).set_ 1 _) (by decide) (by decide) 2 (.int .u32 (link : Int))).set_ (((KC.set_ 0 _).set_ 1 _).set_ 2 _) (by decide) (by decide) 3 (.slice AR k cR)).has e he (HN6.out e he)))
              have HRd := Lib.hid (((((RC.set_ KC (by decide) (by decide) 0 (.bool big)).set_ (KC.set_ 0 _) (by decide) (by decide) 1 (.int .u32 (sn : Int))).set_ ((KC.set_ 0 _).set_ 1 _) (by decide) (by decide) 2 (.int .u32 (link : Int))).set_ (((KC.set_ 0 _).set_ 1 _).set_ 2 _) (by decide) (by decide) 3 (.slice AR k cR)).rd)
              have hne : w.heap.size ≠ f := by have := HLT.out; omega
              have hne2 : f ≠ w.heap.size := by omega
              clear KC BW FC RC
              go_wp2_with fail
              refine bodyPost_ret (results_file rfl _ _ w.heap.size #[.bool big, .int .u32 (sn : Int), .int .u32 (link : Int), .slice AR k cR] rfl KR.out rfl) rfl ⟨BR.out, .inr (.inr ⟨HEQ.out, AR, cR, m, HDE.out, HRd.out, HHs.out, HOK.out, HKM.out ▸ hmc, hcR, by rw [← HKM.out]; omega, .inl ⟨HZ.out, by rw [← HKM.out]; rfl⟩⟩)⟩
          · have hx1 : 0 < x.length := by
              rcases Nat.eq_zero_or_pos x.length with h | h
              · exact absurd (List.eq_nil_of_length_eq_zero h) hx0
              · exact h
            obtain ⟨gy, oy, rfl, _⟩ := hrow.at_ (by intro h; rw [List.map_eq_nil_iff] at h; exact hx0 h)
            have c0 := hfb.cell 0
            have c1 := hfb.cell 1
            have c2 := hfb.cell 2
            have c3 := hfb.cell 3
            obtain ⟨k, hk⟩ : ∃ k, k = m.length := ⟨_, rfl⟩
            have HKM := Lib.hid hk
            obtain ⟨q, hq⟩ : ∃ q, q = x.length := ⟨_, rfl⟩
            have HQ := Lib.hid hq
            by_cases hsh : shortB big x
            · have HRN := Lib.hid (show Calls Try.prog 21 #[.slice (some ⟨gy, oy, none⟩) x.length cy, .agg #[.bool big, .int .u32 (sn : Int), .int .u32 (link : Int), .slice AR m.length cR]] wr fun o w' => o = .returned (.tuple #[.agg #[.int .u32 0, .int .u32 0, .int .u32 0, .slice none 0 0], .int .i64 0, .int .i64 2]) ∧ Below wr.heap.size wr w' from record_no big sn link AR m.length cR (some ⟨gy, oy, none⟩) x.length cy x wr rfl (by omega) (hrow.more hbel.size) hxb (by omega) hsh)
              have HDN := Lib.hid (show dec big (l.drop 24) = none from by rw [hdec, dec_short big x hx0 hsh]; rfl)
              have HRB := Lib.hid hrb
              have HBE := Lib.hid hbel
              rw [← hk, ← hq] at HRN
              rw [← hk] at c3
              rw [← hq] at hx1 hxc ⊢
              have t5 : decide (0 < q) = true := decide_eq_true hx1
              clear hfb hrb hrecs hbel hok hn6 hdec hrel hrow hx0 hsh hk hq hx5 hxb hmc
              go_wp2_with fail
              refine HRN.out.mono ?_
              rintro o w6 ⟨rfl, hb6⟩
              have KC : Blk (w6.alloc (.cells #[.int .u32 0, .int .u32 0, .int .u32 0, .slice none 0 0] 38)) w.heap.size 25 #[.bool false, .int .u32 0, .int .u32 0, .slice none 0 0] := (HRB.out.below hb6 HRB.out.lt).alloc _
              have BW := (HBE.out.trans (hb6.mono HBE.out.size)).alloc (Nat.le_trans HBE.out.size hb6.size) (.cells #[.int .u32 0, .int .u32 0, .int .u32 0, .slice none 0 0] 38)
              have z0 := KC.cell 0
              have z1 := KC.cell 1
              have z2 := KC.cell 2
              have z3 := KC.cell 3
              have y0 := KC.frozen 0
              have y1 := KC.frozen 1
              have y2 := KC.frozen 2
              have y3 := KC.frozen 3
              have KR := Lib.hid (show Blk (((((w6.alloc (.cells #[.int .u32 0, .int .u32 0, .int .u32 0, .slice none 0 0] 38)).setCell ⟨w.heap.size, 0, none⟩ (.bool false)).setCell ⟨w.heap.size, 1, none⟩ (.int .u32 0)).setCell ⟨w.heap.size, 2, none⟩ (.int .u32 0)).setCell ⟨w.heap.size, 3, none⟩ (.slice none 0 0)) w.heap.size 25 #[.bool false, .int .u32 0, .int .u32 0, .slice none 0 0] from (((KC.set_ 0 _).set_ 1 _).set_ 2 _).set_ 3 _)
              have BR := Lib.hid ((((BW.setCell (p := ⟨w.heap.size, 0, none⟩) (Nat.le_refl _) (.bool false)).setCell (p := ⟨w.heap.size, 1, none⟩) (Nat.le_refl _) (.int .u32 0)).setCell (p := ⟨w.heap.size, 2, none⟩) (Nat.le_refl _) (.int .u32 0)).setCell (p := ⟨w.heap.size, 3, none⟩) (Nat.le_refl _) (.slice none 0 0))
              clear KC BW hb6
              go_wp2_with fail
              exact bodyPost_ret (results_file rfl _ _ w.heap.size fileZ rfl KR.out rfl) rfl ⟨BR.out, .inr (.inl ⟨HEQ.out, HDN.out, rfl⟩)⟩
            · have h16 : 16 ≤ x.length := by
                rcases Nat.lt_or_ge x.length 16 with h | h
                · exact absurd (.inl h) hsh
                · exact h
              have hpay : payN big x + 16 ≤ x.length := by
                rcases Nat.lt_or_ge x.length (payN big x + 16) with h | h
                · exact absurd (.inr h) hsh
                · exact h
              have HRY := Lib.hid (record_yes big sn link AR m.length cR (some ⟨gy, oy, none⟩) x.length cy x wr rfl (by omega) hxc hcy (hrow.more hbel.size) hxb (by omega) h16 hpay)
              have HDY := Lib.hid (show dec big (l.drop 24) = (dec big (x.drop (payN big x + 16))).map (fun t => m.map Rc.re ++ reOf big x :: t) from by
                rw [hdec, dec_step big x hx0 hsh]
                cases dec big (x.drop (payN big x + 16)) <;> rfl)
              have HE0 := Lib.hid (ordN_lt big (wAt_lt hxb 0))
              have HE4 := Lib.hid (ordN_lt big (wAt_lt hxb 4))
              have HE12 := Lib.hid (ordN_lt big (wAt_lt hxb 12))
              have HRE := Lib.hid (show reOf big x = ⟨ordN big (wAt x 0), ordN big (wAt x 4), ordN big (wAt x 12), (x.drop 16).take (payN big x)⟩ from rfl)
              unfold RecPost at HRY
              obtain ⟨e0, he0⟩ : ∃ e0, e0 = ordN big (wAt x 0) := ⟨_, rfl⟩
              obtain ⟨e4, he4⟩ : ∃ e4, e4 = ordN big (wAt x 4) := ⟨_, rfl⟩
              obtain ⟨e12, he12⟩ : ∃ e12, e12 = ordN big (wAt x 12) := ⟨_, rfl⟩
              obtain ⟨z, hz⟩ : ∃ z, z = payN big x := ⟨_, rfl⟩
              obtain ⟨AX', hAX', HS1, HS2, HS3⟩ := slice_from gy oy x.length cy (payN big x + 16) hpay hxc
              rw [← hz, ← hq] at HS1 HS2
              rw [← hz] at HS3 HDY hpay
              rw [← hz, ← he0, ← he4, ← he12] at HRE
              have hHRY : Hid (Calls Try.prog 21 #[.slice (some ⟨gy, oy, none⟩) q cy, .agg #[.bool big, .int .u32 (sn : Int), .int .u32 (link : Int), .slice AR k cR]] wr fun o w' => ∃ A c, o = .returned (.tuple #[.agg #[.int .u32 (e0 : Int), .int .u32 (e4 : Int), .int .u32 (e12 : Int), .slice A z c], .int .i64 ((z : Int) + 16), .int .i64 0]) ∧ w'.ownsRow wr.heap.size 5 1 (.slice A z c) z (((x.drop 16).take z).map (.int .u8)) ∧ Below wr.heap.size wr w') := by
                rw [hk, hq, he0, he4, he12, hz]
                exact HRY
              clear HRY
              have HE0' := Lib.hid (show e0 < 4294967296 from he0 ▸ HE0.out)
              have HE4' := Lib.hid (show e4 < 4294967296 from he4 ▸ HE4.out)
              have HE12' := Lib.hid (show e12 < 4294967296 from he12 ▸ HE12.out)
              have r3 : ∀ W : World, (Instr.slice 27 (.slice (some ⟨gy, oy, none⟩) q cy) (some (.int .i64 ((z : Int) + 16))) none none).run Try.prog W = .ok (.slice AX' (q - (z + 16)) (cy - (z + 16))) W := HS1
              have r4 : ∀ W : World, (Instr.sliceAt 27 (.slice (some ⟨gy, oy, none⟩) q cy) (some (.int .i64 ((z : Int) + 16))) none none).run Try.prog W = .ok (.slice AX' (q - (z + 16)) (cy - (z + 16))) W := HS2
              have HS3' := Lib.hid (fun W (hW : Below w.heap.size wr W) => HS3 W w.heap.size x rfl (hrow.below hW))
              have HFB := Lib.hid hfb
              have HRB := Lib.hid hrb
              have HRE2 := Lib.hid hrecs
              have HBE := Lib.hid hbel
              have HOK := Lib.hid hok
              have HN6 := Lib.hid hn6
              have HXB := Lib.hid hxb
              have HX5 := Lib.hid hx5
              have HPL := Lib.hid (show z + 16 ≤ q from hq ▸ hpay)
              rw [← hk] at c3
              rw [← hk] at HFB HRE2
              rw [← hq] at hx1 hxc ⊢
              have hq5 : q ≤ 5000 := by omega
              have hk5 : k ≤ 5000 := by omega
              have t5 : decide (0 < q) = true := decide_eq_true hx1
              obtain ⟨i0, hi0, hz0, hz1, hz2⟩ := info_parts info_rec
              have HI0 := Lib.hid hi0
              have HZ0 := Lib.hid hz0
              have HZ1 := Lib.hid hz1
              have HZ2 := Lib.hid hz2
              clear hi0 hz0 hz1 hz2 HS1 HS2 HS3 hfb hrb hrecs hbel hok hn6 hdec hrel hrow hx0 hsh hk hq hx5 hxb hmc hpay h16 hz he0 he4 he12 HE0 HE4 HE12 hAX'
              go_wp2_with fail
              refine hHRY.out.mono ?_
              rintro o w6 ⟨A6, c6, rfl, ho6, hb6⟩
              have FB7 := ((HFB.out.below hb6 HFB.out.lt).alloc (.cells #[.int .u32 (e0 : Int), .int .u32 (e4 : Int), .int .u32 (e12 : Int), .slice A6 z c6] 38)).alloc (.cells #[.int .u32 (e0 : Int), .int .u32 (e4 : Int), .int .u32 (e12 : Int), .slice A6 z c6] 38)
              have RB7 := ((HRB.out.below hb6 HRB.out.lt).alloc (.cells #[.int .u32 (e0 : Int), .int .u32 (e4 : Int), .int .u32 (e12 : Int), .slice A6 z c6] 38)).alloc (.cells #[.int .u32 (e0 : Int), .int .u32 (e4 : Int), .int .u32 (e12 : Int), .slice A6 z c6] 38)
              have bw6 := HBE.out.trans (hb6.mono HBE.out.size)
              have BE7 := (bw6.alloc bw6.size (.cells #[.int .u32 (e0 : Int), .int .u32 (e4 : Int), .int .u32 (e12 : Int), .slice A6 z c6] 38)).alloc (by simp; have := bw6.size; omega) (.cells #[.int .u32 (e0 : Int), .int .u32 (e4 : Int), .int .u32 (e12 : Int), .slice A6 z c6] 38)
              have bx6 := hb6.mono HBE.out.size
              have BX7 := (bx6.alloc bw6.size (.cells #[.int .u32 (e0 : Int), .int .u32 (e4 : Int), .int .u32 (e12 : Int), .slice A6 z c6] 38)).alloc (by simp; have := bw6.size; omega) (.cells #[.int .u32 (e0 : Int), .int .u32 (e4 : Int), .int .u32 (e12 : Int), .slice A6 z c6] 38)
              have RE6 := HRE2.out.below hb6
              have al6 : Below w6.heap.size w6 ((w6.alloc (.cells #[.int .u32 (e0 : Int), .int .u32 (e4 : Int), .int .u32 (e12 : Int), .slice A6 z c6] 38)).alloc (.cells #[.int .u32 (e0 : Int), .int .u32 (e4 : Int), .int .u32 (e12 : Int), .slice A6 z c6] 38)) := ((Below.refl _ _).alloc (Nat.le_refl _) _).alloc (by simp) _
              have RE7 := RE6.below al6
              have OW7 := (own_up ho6 HBE.out.size).alloc (.cells #[.int .u32 (e0 : Int), .int .u32 (e4 : Int), .int .u32 (e12 : Int), .slice A6 z c6] 38) |>.alloc (.cells #[.int .u32 (e0 : Int), .int .u32 (e4 : Int), .int .u32 (e12 : Int), .slice A6 z c6] 38)
              have hz6 : (w6.alloc (.cells #[.int .u32 (e0 : Int), .int .u32 (e4 : Int), .int .u32 (e12 : Int), .slice A6 z c6] 38)).heap.size = w6.heap.size + 1 := by simp
              have LIT := Blk.new (w6.alloc (.cells #[.int .u32 (e0 : Int), .int .u32 (e4 : Int), .int .u32 (e12 : Int), .slice A6 z c6] 38)) 38 #[.int .u32 (e0 : Int), .int .u32 (e4 : Int), .int .u32 (e12 : Int), .slice A6 z c6]
              rw [hz6] at LIT
              have c3' : (w6.alloc (.cells #[.int .u32 (e0 : Int), .int .u32 (e4 : Int), .int .u32 (e12 : Int), .slice A6 z c6] 38)).cell? ⟨f, 3, none⟩ = some (.slice AR k cR) := ((HFB.out.below hb6 HFB.out.lt).alloc (.cells #[.int .u32 (e0 : Int), .int .u32 (e4 : Int), .int .u32 (e12 : Int), .slice A6 z c6] 38)).cell 3
              have hnews : ∀ (j : Nat) (u : Value), [Value.int .u32 (e0 : Int), .int .u32 (e4 : Int), .int .u32 (e12 : Int), .slice A6 z c6][j]? = some u → ((w6.alloc (.cells #[.int .u32 (e0 : Int), .int .u32 (e4 : Int), .int .u32 (e12 : Int), .slice A6 z c6] 38)).alloc (.cells #[.int .u32 (e0 : Int), .int .u32 (e4 : Int), .int .u32 (e12 : Int), .slice A6 z c6] 38)).cell? ((⟨w6.heap.size + 1, 0, none⟩ : Addr).add j) = some u := by
                intro j u hu
                rw [Addr.add_lit, Nat.zero_add, LIT.cell j, ← hu, ← Array.getElem?_toList]
              have HNEWS := Lib.hid hnews
              have HROW7 := Lib.hid RE7.row
              have HOW7 := Lib.hid OW7
              have HRE7 := Lib.hid RE7
              have HFB7 := Lib.hid FB7
              have HRB7 := Lib.hid RB7
              have HBE7 := Lib.hid BE7
              have HBX7 := Lib.hid BX7
              have HSZ7 := Lib.hid BE7.size
              have y1 : k + 1 ≤ maxLen := by unfold maxLen; omega
              have y2 : (k + 1) * 40 ≤ 140737488355328 := by omega
              have Y1 := Lib.hid y1
              have Y2 := Lib.hid y2
              clear hb6 ho6 FB7 RB7 bw6 BE7 bx6 BX7 RE6 al6 RE7 OW7 LIT hnews y1 y2 hz6
              go_wp2_with (at_builtin; refine wpList_append_own _ rfl (.tmp 58) (.tmp 60) _ rfl w.heap.size 38 i0 _ 4 40 Try.underlying23 HI0.out HZ0.out HZ1.out HZ2.out rfl (by omega) (.slice AR k cR) k (flatR m) rfl (HKM.out ▸ HROW7.out) ⟨w6.heap.size + 1, 0, none⟩ 1 1 [.int .u32 (e0 : Int), .int .u32 (e4 : Int), .int .u32 (e12 : Int), .slice A6 z c6] rfl rfl HNEWS.out (by simp [Value.oneCell']) Y1.out Y2.out HSZ7.out ?_; intro va wa owna ga _; obtain ⟨Aa, ca, rfl⟩ := own_sliceN owna; have RMa := Recs.more (e := ⟨e0, e4, e12, A6, z, c6, (x.drop 16).take z⟩) HRE7.out HOW7.out (show wa.ownsRow w.heap.size 38 4 (.slice Aa (k + 1) ca) (m.length + 1) _ from HKM.out ▸ owna) ga; have FBa := HFB7.out.grown ga (fun h => own_neB (by decide) HROW7.out HFB7.out f h.symm rfl); have RBa := HRB7.out.grown ga (fun h => own_neB (by decide) HROW7.out HRB7.out w.heap.size h.symm rfl); have BEa := HBE7.out.grown ga (Nat.le_trans HBE7.out.size (Nat.le_refl _)) (fun k hk => (HROW7.out.lt k hk).1); have BXa := HBX7.out.grown ga HBE7.out.size (fun k hk => (HROW7.out.lt k hk).1); have a3 := FBa.cell 3; have f3 := FBa.frozen 3; have HFBa := Lib.hid FBa; have HRBa := Lib.hid RBa; have HBEa := Lib.hid BEa; have HBXa := Lib.hid BXa; have HRMa := Lib.hid RMa; clear owna ga FBa RBa BEa BXa RMa)
              have hfw := HLT.out
              have hx5 := HX5.out
              have hpl := HPL.out
              have hqx := HQ.out
              have hkm := HKM.out
              have HND := Lib.hid (show StR w f big sn link l (.slice AX' (q - (z + 16)) (cy - (z + 16))) (wa.setCell ⟨f, 3, none⟩ (.slice Aa (k + 1) ca)) from by
                refine ⟨x.drop (z + 16), AX', cy - (z + 16), m ++ [⟨e0, e4, e12, A6, z, c6, (x.drop 16).take z⟩], .slice Aa (k + 1) ca, by rw [List.length_drop, ← hqx], by rw [List.length_drop, ← hqx]; omega, by omega, HXB.out.drop _, by rw [List.length_drop, List.length_append, List.length_singleton]; omega,
                  HS3'.out _ (HBXa.out.setCell (show w.heap.size ≤ f by omega) _), HRMa.out.set_ HFBa.out (by decide) (by decide) 3 _, HFBa.out.set_ 3 _, HRBa.out.far (show w.heap.size ≠ f by omega) _, HBEa.out.setCell (show w.heap.size ≤ f by omega) _, ?_, ?_, ?_⟩
                · intro e he
                  rcases List.mem_append.mp he with h | h
                  · exact HOK.out e h
                  · rw [List.mem_singleton.mp h]
                    exact ⟨HE0'.out, HE4'.out, HE12'.out, show z ≤ 1000000000 by omega⟩
                · intro e he
                  rcases List.mem_append.mp he with h | h
                  · exact HN6.out e h
                  · rw [List.mem_singleton.mp h]
                    exact (show z ≤ 65536 by omega)
                · rw [HDY.out]
                  congr 1
                  funext t
                  rw [HRE.out, List.map_append, List.append_assoc]
                  rfl)
              clear hfw hx5 hpl hqx hkm
              go_roundw
              case rel => exact HND
              case measure =>
                have := HPL.out
                simp only [lenV]
                omega
end Go.Proofs.Ytmchedjeohhpcaa.pcapN
