/- Layer 36: any bytes are read as the file that they are. -/
import Derived.Test.YtmchedjeohhpcaaPcapU
import Derived.Test.YtmchedjeohhpcaaPcapV
import Derived.Deep.QuietTactic
import Derived.BigQuiet
import Derived.Deep.RegionHeldLaw
import Derived.Deep.CutBlock
namespace Go.Proofs.Ytmchedjeohhpcaa.pcapW
open Go.ChangeShapes Go.WideShapes Go.ChangeAt Go.RowKit
open Go.Proofs.Ytmchedjeohhpcaa.base Go.Proofs.Ytmchedjeohhpcaa.pcapA Go.Proofs.Ytmchedjeohhpcaa.pcapB Go.Proofs.Ytmchedjeohhpcaa.pcapC Go.Proofs.Ytmchedjeohhpcaa.pcapD Go.Proofs.Ytmchedjeohhpcaa.pcapE Go.Proofs.Ytmchedjeohhpcaa.pcapF Go.Proofs.Ytmchedjeohhpcaa.pcapG Go.Proofs.Ytmchedjeohhpcaa.pcapI Go.Proofs.Ytmchedjeohhpcaa.pcapJ Go.Proofs.Ytmchedjeohhpcaa.pcapK Go.Proofs.Ytmchedjeohhpcaa.pcapL Go.Proofs.Ytmchedjeohhpcaa.pcapM Go.Proofs.Ytmchedjeohhpcaa.pcapN Go.Proofs.Ytmchedjeohhpcaa.pcapO Go.Proofs.Ytmchedjeohhpcaa.pcapP Go.Proofs.Ytmchedjeohhpcaa.pcapQ Go.Proofs.Ytmchedjeohhpcaa.pcapR Go.Proofs.Ytmchedjeohhpcaa.pcapS Go.Proofs.Ytmchedjeohhpcaa.pcapT Go.Proofs.Ytmchedjeohhpcaa.pcapU Go.Proofs.Ytmchedjeohhpcaa.pcapV
set_option linter.unusedVariables false

/-- Bytes that came in, few enough. -/
def In (w : World) (v : Value) (l : List Int) : Prop := ∃ A n c, v = .slice A n c ∧ l.length = n ∧ n ≤ 600 ∧ n ≤ c ∧ c ≤ 9223372036854775807 ∧ Row w w.heap.size A (l.map (.int .u8)) ∧ Byte l
theorem byte_lit4 : Byte [161, 178, 195, 212] ∧ Byte [212, 195, 178, 161] := by
  constructor <;> (intro x hx; simp at hx; omega)
theorem lit_true : ([161, 178, 195, 212] : List UInt8) = (strOfNums [161, 178, 195, 212]).toList := by rw [ByteArray.toList_eq]; rfl
theorem lit_false : ([212, 195, 178, 161] : List UInt8) = (strOfNums [212, 195, 178, 161]).toList := by rw [ByteArray.toList_eq]; rfl
theorem slice_ii (b off n c s t : Nat) (hs : s ≤ t) (ht : t ≤ n) (hnc : n ≤ c) (hsc : s < c) :
    (∀ W : World, (Instr.slice 27 (.slice (some ⟨b, off, none⟩) n c) (some (.int .i64 (s : Int))) (some (.int .i64 (t : Int))) none).run Try.prog W = .ok (.slice (some ⟨b, off + s, none⟩) (t - s) (c - s)) W) ∧
    (∀ W : World, (Instr.sliceAt 27 (.slice (some ⟨b, off, none⟩) n c) (some (.int .i64 (s : Int))) (some (.int .i64 (t : Int))) none).run Try.prog W = .ok (.slice (some ⟨b, off + s, none⟩) (t - s) (c - s)) W) := by
  have hu : Try.prog.underlying 27 = some (.slice (Try.prog.elem 27)) := by kernel_rfl
  have hz : ∀ W : World, (sizeOf (Try.prog.elem 27)).run Try.prog W = .ok 1 W := fun _ => by kernel_rfl
  have key : ∀ W : World, (Instr.slice 27 (.slice (some ⟨b, off, none⟩) n c) (some (.int .i64 (s : Int))) (some (.int .i64 (t : Int))) none).run Try.prog W = .ok (.slice (some ⟨b, off + s, none⟩) (t - s) (c - s)) W := by
    intro W
    rw [run_slice_lh W 27 (some ⟨b, off, none⟩) n c hu .i64 .i64 (s : Int) (t : Int) (by omega) (by omega) (by omega), hz]
    simp only [Result.andThen, sliced, Int.toNat_natCast, Nat.mul_one, Option.map_some, Addr.add_lit]
    rw [if_neg (by omega)]
  exact ⟨key, fun W => by rw [run_sliceAt_slice W 27 _ _ _ _ hu, key]⟩
def bOf : Value → Nat
  | .bool true => 0
  | _ => 1
def LoopOk (big : Bool) (l : List Int) (D : Bool) (j : Nat) (b : Bool) : Prop := (b = false → j ≤ l.length ∧ (dec big (l.drop j)).isNone = D) ∧ (b = true → D = true) ∧ j ≤ 10000000000
theorem LoopOk.short {big : Bool} {l : List Int} {D : Bool} {j : Nat} (h : LoopOk big l D j false) (hj : j < l.length) (hs : l.length - j < 16 ∨ l.length - j < ordN big (wAt l (j + 8)) + 16) : D = true := by
  obtain ⟨h1, h2⟩ := h.1 rfl
  have hx : l.drop j ≠ [] := fun e => by have := congrArg List.length e; rw [List.length_drop] at this; simp at this; omega
  have hsh : shortB big (l.drop j) := by
    unfold shortB
    rw [List.length_drop, wAt_drop]
    exact hs
  rw [dec_short big _ hx hsh] at h2
  exact h2.symm
theorem LoopOk.next {big : Bool} {l : List Int} {D : Bool} {j : Nat} (h : LoopOk big l D j false) (hj : j < l.length) (h1 : 16 ≤ l.length - j) (h2 : ordN big (wAt l (j + 8)) + 16 ≤ l.length - j) (h3 : l.length ≤ 600) : LoopOk big l D (j + 16 + ordN big (wAt l (j + 8))) false := by
  obtain ⟨h4, h5⟩ := h.1 rfl
  have hx : l.drop j ≠ [] := fun e => by have := congrArg List.length e; rw [List.length_drop] at this; simp at this; omega
  have hsh : ¬ shortB big (l.drop j) := by
    unfold shortB
    rw [List.length_drop, wAt_drop]
    omega
  refine ⟨fun _ => ⟨by omega, ?_⟩, (fun h => (by cases h)), by omega⟩
  rw [dec_step big _ hx hsh] at h5
  unfold payN at h5
  rw [wAt_drop, List.drop_drop, show j + (ordN big (wAt l (j + 8)) + 16) = j + 16 + ordN big (wAt l (j + 8)) by omega] at h5
  rw [← h5]
  cases dec big (l.drop (j + 16 + ordN big (wAt l (j + 8)))) <;> rfl
theorem LoopOk.last {big : Bool} {l : List Int} {D : Bool} {j : Nat} (h : LoopOk big l D j false) (hj : ¬ j < l.length) : D = false := by
  obtain ⟨h4, h5⟩ := h.1 rfl
  rw [List.drop_eq_nil_of_le (by omega), dec_nil] at h5
  exact h5.symm
/-- What Read came to, told by its parts. -/
structure Fin (big : Bool) (sn link : Nat) (l : List Int) (w' : World) (gb : Bool) (gs gk : Nat) (gA : Option Addr) (gn gc : Nat) (e : Int) : Prop where
  ver : l.take 16 ≠ headZ big → gb = false ∧ gs = 0 ∧ gk = 0 ∧ gA = none ∧ gn = 0 ∧ gc = 0 ∧ e = 10
  short : l.take 16 = headZ big → dec big (l.drop 24) = none → gb = false ∧ gs = 0 ∧ gk = 0 ∧ gA = none ∧ gn = 0 ∧ gc = 0 ∧ e = 2
  fin : l.take 16 = headZ big → dec big (l.drop 24) ≠ none → ∃ m, dec big (l.drop 24) = some (m.map Rc.re) ∧ (∀ e ∈ m, Has w' e) ∧ (∀ e ∈ m, e.ok) ∧ m.length ≤ 4096 ∧
    ((rightB sn m = true ∧ gb = big ∧ gs = sn ∧ gk = link ∧ gn = m.length ∧ gn ≤ gc ∧ gc ≤ 9223372036854775807 ∧ RdR w' gA m ∧ e = 0) ∨ (rightB sn m = false ∧ gb = false ∧ gs = 0 ∧ gk = 0 ∧ gA = none ∧ gn = 0 ∧ gc = 0 ∧ e = 5))
theorem fin_of {big : Bool} {sn link : Nat} {l : List Int} {w : World} {o : Ending} {w' : World} (h : ReadPost big sn link l w o w') :
    ∃ (gb : Bool) (gs gk : Nat) (gA : Option Addr) (gn gc : Nat) (e : Int), o = .returned (.tuple #[.agg #[.bool gb, .int .u32 (gs : Int), .int .u32 (gk : Int), .slice gA gn gc], .int .i64 e]) ∧ Below w.heap.size w w' ∧ Fin big sn link l w' gb gs gk gA gn gc e := by
  obtain ⟨hb, hd⟩ := h
  rcases hd with ⟨h1, h2⟩ | ⟨h1, h2, h3⟩ | ⟨h1, A, c, m, h2, h3, h4, h5, h6, h7, h8, h9⟩
  · exact ⟨false, 0, 0, none, 0, 0, 10, h2, hb, fun _ => ⟨rfl, rfl, rfl, rfl, rfl, rfl, rfl⟩, fun h => absurd h h1, fun h => absurd h h1⟩
  · exact ⟨false, 0, 0, none, 0, 0, 2, h3, hb, fun h => absurd h1 h, fun _ _ => ⟨rfl, rfl, rfl, rfl, rfl, rfl, rfl⟩, fun _ h => absurd h2 h⟩
  · rcases h9 with ⟨g1, g2⟩ | ⟨g1, g2⟩
    · exact ⟨big, sn, link, A, m.length, c, 0, g2, hb, fun h => absurd h1 h, (fun _ h => (by rw [h2] at h; cases h)), fun _ _ => ⟨m, h2, h4, h5, h8, .inl ⟨g1, rfl, rfl, rfl, rfl, h6, h7, h3, rfl⟩⟩⟩
    · exact ⟨false, 0, 0, none, 0, 0, 5, g2, hb, fun h => absurd h1 h, (fun _ h => (by rw [h2] at h; cases h)), fun _ _ => ⟨m, h2, h4, h5, h8, .inr ⟨g1, rfl, rfl, rfl, rfl, rfl, rfl, rfl⟩⟩⟩
set_option maxHeartbeats 4000000 in
set_option maxRecDepth 100000 in
theorem reads_any (A : Option Addr) (n c : Nat) (l : List Int) (w : World) (hl : l.length = n) (hc1 : n ≤ c) (hc2 : c ≤ 9223372036854775807) (hr : Row w w.heap.size A (l.map (.int .u8))) (hb : Byte l) :
    Calls Try.prog 4 #[.slice A n c] w fun o w' => o = .returned (.bool true) ∧ Below w.heap.size w w' := by
  have HSMZ := Lib.hid (show ∀ W : World, Calls Try.prog 14 #[.agg #[.bool false, .int .u32 0, .int .u32 0, .slice none 0 0], .agg #[.bool false, .int .u32 0, .int .u32 0, .slice none 0 0]] W fun o w' => o = .returned (.bool true) ∧ Below W.heap.size W w' from fun W => same_true false 0 0 none none 0 0 0 [] [] W (.inl rfl) (.inl rfl) (by simp) (by simp) rfl rfl (by omega))
  have HAW := Lib.hid (fun W => awake_any W)
  have HIN := Lib.hid (show n ≤ 600 → In w (.slice A n c) l from fun h => ⟨A, n, c, rfl, hl, h, hc1, hc2, hr, hb⟩)
  have HIN2 := Lib.hid (show 600 < n → In w (.slice A 600 c) (l.take 600) from fun h => ⟨A, 600, c, rfl, by rw [List.length_take]; omega, Nat.le_refl _, by omega, hc2, by have := hr.take 600; rw [← List.map_take] at this; exact this, hb.take _⟩)
  have HA := Lib.hid (show 600 < n → ∃ g off, A = some ⟨g, off, none⟩ from fun h => by
    obtain ⟨g, off, hA, _⟩ := hr.at_ (by intro e; rw [List.map_eq_nil_iff] at e; subst e; simp at hl; omega)
    exact ⟨g, off, hA⟩)
  clear hl hr hb
  go_enter Try.func4, Try.ntmps4
  go_upto_if 13 with fail
  go_cut [0] (fun v wx => wx = w ∧ ∃ l2, Hid (In w v l2))
  case first =>
    by_cases h6 : n ≤ 600
    · have t1 : decide ((600 : Int) < n) = false := decide_eq_false (by omega)
      have HX := Lib.hid (HIN.out h6)
      go_wp2_with fail
      go_meet
      exact ⟨rfl, l, HX⟩
    · have t1 : decide ((600 : Int) < n) = true := decide_eq_true (by omega)
      have HX := Lib.hid (HIN2.out (by omega))
      obtain ⟨g, off, rfl⟩ := HA.out (by omega)
      obtain ⟨r1, r2⟩ := slice_to g off n c 600 (by omega) (by omega)
      have r1' : ∀ W : World, (Instr.slice 27 (.slice (some ⟨g, off, none⟩) n c) none (some (.int .i64 600)) none).run Try.prog W = .ok (.slice (some ⟨g, off, none⟩) 600 c) W := r1
      have r2' : ∀ W : World, (Instr.sliceAt 27 (.slice (some ⟨g, off, none⟩) n c) none (some (.int .i64 600)) none).run Try.prog W = .ok (.slice (some ⟨g, off, none⟩) 600 c) W := r2
      clear r1 r2
      go_wp2_with fail
      go_meet
      exact ⟨rfl, _, HX⟩
  case rest =>
    obtain ⟨rfl, l2, HX⟩ := hcut
    clear HIN HIN2 HA hc1
    obtain ⟨A2, m, c2, hv, hl, hm, hc1, hc2', hr, hb⟩ := HX.out
    subst hv
    clear HX
    by_cases h24 : m < 24
    · have HRS := Lib.hid (read_short A2 m c2 wc h24)
      have t1 : decide ((m : Int) < 24) = true := decide_eq_true (by omega)
      unfold fileZ at HRS
      clear hl hr hb
      go_wp2_with fail
      refine HRS.out.mono ?_
      rintro o w1 ⟨rfl, hb1⟩
      have B1 := Lib.hid (hb1.alloc hb1.size (.cells #[.bool false, .int .u32 0, .int .u32 0, .slice none 0 0] 25))
      clear hb1
      go_wp2_with fail
      refine (HSMZ.out _).mono ?_
      rintro o w2 ⟨rfl, hb2⟩
      have B2 := Lib.hid (B1.out.trans (hb2.mono B1.out.size))
      clear hb2
      go_wp2_with fail
      refine (HAW.out _).mono ?_
      rintro o w3 ⟨rfl, hb3⟩
      have B3 := Lib.hid (B2.out.trans (hb3.mono B2.out.size))
      clear hb3
      go_wp2_with fail
      go_ret
      exact ⟨rfl, B3.out⟩
    · have t1 : decide ((m : Int) < 24) = false := decide_eq_false (by omega)
      obtain ⟨g, off, rfl, _⟩ := hr.at_ (by intro e; rw [List.map_eq_nil_iff] at e; subst e; simp at hl; omega)
      have s4 := slice_to g off m c2 4 (by omega) (by omega)
      have s16 := slice_to g off m c2 16 (by omega) (by omega)
      have r4 : ∀ W : World, (Instr.slice 27 (.slice (some ⟨g, off, none⟩) m c2) none (some (.int .i64 4)) none).run Try.prog W = .ok (.slice (some ⟨g, off, none⟩) 4 c2) W := s4.1
      have r4' : ∀ W : World, (Instr.sliceAt 27 (.slice (some ⟨g, off, none⟩) m c2) none (some (.int .i64 4)) none).run Try.prog W = .ok (.slice (some ⟨g, off, none⟩) 4 c2) W := s4.2
      have r16 : ∀ W : World, (Instr.slice 27 (.slice (some ⟨g, off, none⟩) m c2) none (some (.int .i64 16)) none).run Try.prog W = .ok (.slice (some ⟨g, off, none⟩) 16 c2) W := s16.1
      have r16' : ∀ W : World, (Instr.sliceAt 27 (.slice (some ⟨g, off, none⟩) m c2) none (some (.int .i64 16)) none).run Try.prog W = .ok (.slice (some ⟨g, off, none⟩) 16 c2) W := s16.2
      have HCV := Lib.hid (show ∀ (W : World) (k : Nat), k ≤ m → Below wc.heap.size wc W → (convert 27 9 (.slice (some ⟨g, off, none⟩) k c2)).run Try.prog W = .ok (.string (strOfNums (l2.take k))) W from fun W k hk hW => by
        have h1 := (hr.below hW).take k
        rw [← List.map_take] at h1
        exact conv_row h1 (by rw [List.length_take]; omega))
      have HM1 := Lib.hid (magic_true l2 hb (by omega))
      have HM2 := Lib.hid (magic_false l2 hb (by omega))
      have HQ1 := Lib.hid (show ((strOfNums (l2.take 4)).toList == [161, 178, 195, 212]) = decide (l2.take 4 = [161, 178, 195, 212]) from by rw [lit_true]; exact str_eq (hb.take 4) byte_lit4.1)
      have HQ2 := Lib.hid (show ((strOfNums (l2.take 4)).toList == [212, 195, 178, 161]) = decide (l2.take 4 = [212, 195, 178, 161]) from by rw [lit_false]; exact str_eq (hb.take 4) byte_lit4.2)
      clear s4 s16
      by_cases hform : wAt l2 0 ≠ 2712847316 ∧ ordN false (wAt l2 0) ≠ 2712847316
      · have HRF := Lib.hid (read_form (some ⟨g, off, none⟩) m c2 l2 wc hl (by omega) (by omega) hr hb hform.1 hform.2)
        have x1 : ((strOfNums (l2.take 4)).toList == [161, 178, 195, 212]) = false := by rw [HQ1.out]; exact decide_eq_false (fun h => hform.1 (HM1.out.mp h))
        have x2 : ((strOfNums (l2.take 4)).toList == [212, 195, 178, 161]) = false := by rw [HQ2.out]; exact decide_eq_false (fun h => hform.2 (HM2.out.mp h))
        unfold fileZ at HRF
        clear hl hr hb hform
        go_wp2_with fail
        refine HRF.out.mono ?_
        rintro o w1 ⟨rfl, hb1⟩
        have cv := HCV.out (w1.alloc (.cells #[.bool false, .int .u32 0, .int .u32 0, .slice none 0 0] 25)) 4 (by omega) (hb1.alloc hb1.size _)
        have B1 := Lib.hid (hb1.alloc hb1.size (.cells #[.bool false, .int .u32 0, .int .u32 0, .slice none 0 0] 25))
        clear hb1
        go_wp2_with fail
        refine (HSMZ.out _).mono ?_
        rintro o w2 ⟨rfl, hb2⟩
        have B2 := Lib.hid (B1.out.trans (hb2.mono B1.out.size))
        clear hb2
        go_wp2_with fail
        refine (HAW.out _).mono ?_
        rintro o w3 ⟨rfl, hb3⟩
        have B3 := Lib.hid (B2.out.trans (hb3.mono B2.out.size))
        clear hb3
        go_wp2_with fail
        go_ret
        exact ⟨rfl, B3.out⟩
      · have hsome : wAt l2 0 = 2712847316 ∨ (wAt l2 0 ≠ 2712847316 ∧ ordN false (wAt l2 0) = 2712847316) := by
          by_cases h1 : wAt l2 0 = 2712847316
          · exact .inl h1
          · refine .inr ⟨h1, ?_⟩
            by_cases h2 : ordN false (wAt l2 0) = 2712847316
            · exact h2
            · exact absurd ⟨h1, h2⟩ hform
        rcases hsome with hmag | ⟨hmag, hmag2⟩
        · have HRM := Lib.hid (read_main true (some ⟨g, off, none⟩) m c2 l2 wc hl (by omega) (by omega) hc1 hc2' hr hb (by rw [show ordN true (wAt l2 0) = wAt l2 0 from rfl, hmag]; rfl) (by rw [show ordN true (wAt l2 0) = wAt l2 0 from rfl, hmag]))
          have x1 : ((strOfNums (l2.take 4)).toList == [161, 178, 195, 212]) = true := by rw [HQ1.out]; exact decide_eq_true (HM1.out.mpr hmag)
          clear hmag
          have HSN := Lib.hid (ordN_lt true (wAt_lt hb 16))
          have HLK := Lib.hid (ordN_lt true (wAt_lt hb 20))
          have HH24 := Lib.hid (fun h => head24 true l2 hb (by omega) h)
          have HL := Lib.hid hl
          have HR := Lib.hid hr
          have HBY := Lib.hid hb
          have HC16 := Lib.hid (show ((strOfNums (l2.take 16)).toList == (strOfNums (headZ true)).toList) = decide (l2.take 16 = headZ true) from str_eq (hb.take 16) (byte_headZ true))
          have HLZ := Lib.hid (show ∀ W, Calls Try.prog 13 #[.agg #[.bool true, .int .u32 0, .int .u32 0, .slice none 0 0]] W (LBytesPost W (headB true 0 0 ++ bodyB true [])) from fun W => lbytes_any true 0 0 none 0 [] W (by decide) (by decide) (.inl rfl) (by simp) (by simp) (by decide) (by decide) (by decide))
          obtain ⟨sn, hsn⟩ : ∃ sn, sn = ordN true (wAt l2 16) := ⟨_, rfl⟩
          obtain ⟨link, hlk⟩ : ∃ link, link = ordN true (wAt l2 20) := ⟨_, rfl⟩
          rw [← hsn] at HRM HSN HH24
          rw [← hlk] at HRM HLK HH24
          have HFIN := Lib.hid (show ∀ (o : Ending) (w' : World), ReadPost true sn link l2 wc o w' → ∃ (gb : Bool) (gs gk : Nat) (gA : Option Addr) (gn gc : Nat) (e : Int), o = .returned (.tuple #[.agg #[.bool gb, .int .u32 (gs : Int), .int .u32 (gk : Int), .slice gA gn gc], .int .i64 e]) ∧ Below wc.heap.size wc w' ∧ Fin true sn link l2 w' gb gs gk gA gn gc e from fun o w' h => fin_of h)
          clear hl hr hb hform hsn hlk
          go_wp2_with fail
          refine HRM.out.mono ?_
          intro o w1 hpost
          obtain ⟨gb, gs, gk, gA, gn, gc, e, rfl, hb1, hfin⟩ := HFIN.out o w1 hpost
          have HF := Lib.hid hfin
          have cv := HCV.out (w1.alloc (.cells #[.bool gb, .int .u32 (gs : Int), .int .u32 (gk : Int), .slice gA gn gc] 25)) 4 (by omega) (hb1.alloc hb1.size _)
          have B1 := Lib.hid (hb1.alloc hb1.size (.cells #[.bool gb, .int .u32 (gs : Int), .int .u32 (gk : Int), .slice gA gn gc] 25))
          have K1 := Lib.hid (Blk.new w1 25 #[.bool gb, .int .u32 (gs : Int), .int .u32 (gk : Int), .slice gA gn gc])
          have HB1 := Lib.hid hb1
          clear hb1 hfin hpost HFIN
          go_wp2_with fail
          refine (HLZ.out _).mono ?_
          rintro o w3 ⟨v3, rfl, ho3, hb3⟩
          obtain ⟨gz, cz, rfl, _, _, hcz, _, _, _⟩ := own_form ho3 (by decide)
          have k3 := K1.out.below hb3 K1.out.lt
          have f0 := k3.cell 0
          have f1 := k3.cell 1
          have f2 := k3.cell 2
          have f3 := k3.cell 3
          have HK3 := Lib.hid k3
          have B3 := Lib.hid (B1.out.trans (hb3.mono B1.out.size))
          have HB3 := Lib.hid hb3
          have cz3 := HCV.out w3 16 (by omega) B3.out
          have hz16 := (own_row ho3).take 16
          rw [← List.map_take] at hz16
          have hzz : (headB true 0 0 ++ bodyB true []).take 16 = headZ true := by
            unfold headZ
            rw [show bodyB true [] = [] from rfl, List.append_nil]
          rw [hzz] at hz16
          have cz4 := conv_row (c := cz) (n := 16) hz16 (headZ_len true)
          have hlz : (headB true 0 0 ++ bodyB true []).length = 24 := by rw [show bodyB true [] = [] from rfl, List.append_nil, headB_len]
          have sz := slice_to gz 0 (headB true 0 0 ++ bodyB true []).length cz 16 (by omega) (by omega)
          have rz : ∀ W : World, (Instr.slice 27 (.slice (some ⟨gz, 0, none⟩) (headB true 0 0 ++ bodyB true []).length cz) none (some (.int .i64 16)) none).run Try.prog W = .ok (.slice (some ⟨gz, 0, none⟩) 16 cz) W := sz.1
          have rz' : ∀ W : World, (Instr.sliceAt 27 (.slice (some ⟨gz, 0, none⟩) (headB true 0 0 ++ bodyB true []).length cz) none (some (.int .i64 16)) none).run Try.prog W = .ok (.slice (some ⟨gz, 0, none⟩) 16 cz) W := sz.2
          rw [hlz] at rz rz' ⊢
          clear sz hlz hzz hz16 ho3 hb3 k3
          by_cases htake : l2.take 16 = headZ true
          · have x16 : ((strOfNums (l2.take 16)).toList == (strOfNums (headZ true)).toList) = true := by rw [HC16.out]; exact decide_eq_true htake
            have HTK := Lib.hid htake
            clear htake
            obtain ⟨D, hD⟩ : ∃ D, D = (dec true (l2.drop 24)).isNone := ⟨_, rfl⟩
            have HD := Lib.hid hD
            have HLO0 := Lib.hid (show LoopOk true l2 D 24 false from ⟨fun _ => ⟨by rw [HL.out]; omega, hD.symm⟩, (fun h => (by cases h)), by omega⟩)
            clear hD
            go_upto_block 0 with fail
            go_cut [8] (fun v wx => v = .bool D ∧ Hid (Below w3.heap.size w3 wx))
            case first =>
              clear cv cz3 cz4 x1 x16 r4 r4' r16 r16' rz rz' f0 f1 f2 f3
              go_wp2_with fail
              go_loopw [7, 8] (fun a v wr => ∃ (j : Nat) (b : Bool), a = .int .i64 j ∧ v = .bool b ∧ Hid (Below w3.heap.size w3 wr) ∧ Hid (LoopOk true l2 D j b)) (fun a v _ => bOf v * (m + 1 - (intOf a).toNat))
              case atStart => exact ⟨24, false, rfl, rfl, Lib.hid (Below.refl _ _), HLO0⟩
              case round =>
                obtain ⟨j, b, rfl, rfl, HBW, HLO⟩ := hrel
                have hjb := HLO.out.2.2
                cases b with
                | true =>
                  have HDT := Lib.hid (HLO.out.2.1 rfl)
                  by_cases hj : j < m
                  · have t2 : decide ((j : Int) < m) = true := decide_eq_true (by omega)
                    have t2' : decide (j < m) = true := decide_eq_true hj
                    go_wp2_with fail
                    go_meet
                    exact ⟨by rw [HDT.out], HBW⟩
                  · have t2 : decide ((j : Int) < m) = false := decide_eq_false (by omega)
                    have t2' : decide (j < m) = false := decide_eq_false hj
                    go_wp2_with fail
                    go_meet
                    exact ⟨by rw [HDT.out], HBW⟩
                | false =>
                  by_cases hj : j < m
                  · have t2 : decide ((j : Int) < m) = true := decide_eq_true (by omega)
                    have t2' : decide (j < m) = true := decide_eq_true hj
                    by_cases h16 : m - j < 16
                    · have t3 : decide ((m : Int) - j < 16) = true := decide_eq_true (by omega)
                      have HDT := Lib.hid (HLO.out.short (by rw [HL.out]; exact hj) (.inl (by rw [HL.out]; exact h16)))
                      go_wp2_with fail
                      go_meet
                      exact ⟨by rw [HDT.out], HBW⟩
                    · have t3 : decide ((m : Int) - j < 16) = false := decide_eq_false (by omega)
                      have sii := slice_ii g off m c2 (j + 8) (j + 12) (by omega) (by omega) hc1 (by omega)
                      rw [show j + 12 - (j + 8) = 4 by omega] at sii
                      have rx : ∀ W : World, (Instr.slice 27 (.slice (some ⟨g, off, none⟩) m c2) (some (.int .i64 ((j : Int) + 8))) (some (.int .i64 ((j : Int) + 12))) none).run Try.prog W = .ok (.slice (some ⟨g, off + (j + 8), none⟩) 4 (c2 - (j + 8))) W := sii.1
                      have rx' : ∀ W : World, (Instr.sliceAt 27 (.slice (some ⟨g, off, none⟩) m c2) (some (.int .i64 ((j : Int) + 8))) (some (.int .i64 ((j : Int) + 12))) none).run Try.prog W = .ok (.slice (some ⟨g, off + (j + 8), none⟩) 4 (c2 - (j + 8))) W := sii.2
                      have hrw := HR.out.below (B3.out.trans (HBW.out.mono B3.out.size))
                      have d0 := row_get hrw HBY.out (j + 8) (by rw [HL.out]; omega)
                      have d1 := row_get hrw HBY.out (j + 8 + 1) (by rw [HL.out]; omega)
                      have d2 := row_get hrw HBY.out (j + 8 + 2) (by rw [HL.out]; omega)
                      have d3 := row_get hrw HBY.out (j + 8 + 3) (by rw [HL.out]; omega)
                      have b0 := getD_byte HBY.out (j + 8)
                      have b1 := getD_byte HBY.out (j + 8 + 1)
                      have b2 := getD_byte HBY.out (j + 8 + 2)
                      have b3 := getD_byte HBY.out (j + 8 + 3)
                      have hN := Lib.hid (show ordN true (wAt l2 (j + 8)) = (l2.getD (j + 8) 0).toNat * 16777216 + (l2.getD (j + 8 + 1) 0).toNat * 65536 + (l2.getD (j + 8 + 2) 0).toNat * 256 + (l2.getD (j + 8 + 3) 0).toNat from by
                        unfold wAt
                        rfl)
                      have HNX := Lib.hid (fun a b => HLO.out.next (by rw [HL.out]; exact hj) a b (by rw [HL.out]; omega))
                      have HSH := Lib.hid (fun a => HLO.out.short (by rw [HL.out]; exact hj) (.inr a))
                      rw [HL.out] at HNX HSH
                      obtain ⟨p0, hp0⟩ : ∃ p0, p0 = (l2.getD (j + 8) 0).toNat := ⟨_, rfl⟩
                      obtain ⟨p1, hp1⟩ : ∃ p1, p1 = (l2.getD (j + 8 + 1) 0).toNat := ⟨_, rfl⟩
                      obtain ⟨p2, hp2⟩ : ∃ p2, p2 = (l2.getD (j + 8 + 2) 0).toNat := ⟨_, rfl⟩
                      obtain ⟨p3, hp3⟩ : ∃ p3, p3 = (l2.getD (j + 8 + 3) 0).toNat := ⟨_, rfl⟩
                      have k0 : p0 < 256 := by omega
                      have k1 : p1 < 256 := by omega
                      have k2 : p2 < 256 := by omega
                      have k3 : p3 < 256 := by omega
                      rw [← hp0] at d0 hN
                      rw [← hp1] at d1 hN
                      rw [← hp2] at d2 hN
                      rw [← hp3] at d3 hN
                      rw [← Nat.add_assoc] at d1 d2 d3
                      obtain ⟨N, hNN⟩ : ∃ N, N = ordN true (wAt l2 (j + 8)) := ⟨_, rfl⟩
                      rw [← hNN] at hN HNX HSH
                      have hN2 := hN.out
                      have hN3 : N < 4294967296 := by omega
                      obtain ⟨q8, hq8⟩ : ∃ q8, q8 = off + (j + 8) := ⟨_, rfl⟩
                      rw [← hq8] at rx rx' d0 d1 d2 d3
                      have g0 : (0 : Int) < 4 := by decide
                      clear hp0 hp1 hp2 hp3 b0 b1 b2 b3 hNN hrw sii hq8
                      have v0 : IntKind.i64.wrap (p0 : Int) = (p0 : Int) := IntWalk.i64_in _ (by omega)
                      have v1 : IntKind.i64.wrap (p1 : Int) = (p1 : Int) := IntWalk.i64_in _ (by omega)
                      have v2 : IntKind.i64.wrap (p2 : Int) = (p2 : Int) := IntWalk.i64_in _ (by omega)
                      have v3 : IntKind.i64.wrap (p3 : Int) = (p3 : Int) := IntWalk.i64_in _ (by omega)
                      obtain ⟨u1, hu1⟩ : ∃ u : Int, u = 256 * (p1 : Int) := ⟨_, rfl⟩
                      obtain ⟨u2, hu2⟩ : ∃ u : Int, u = 65536 * (p2 : Int) := ⟨_, rfl⟩
                      obtain ⟨u3, hu3⟩ : ∃ u : Int, u = 16777216 * (p3 : Int) := ⟨_, rfl⟩
                      obtain ⟨s1, hs1⟩ : ∃ u : Int, u = (p0 : Int) + u1 := ⟨_, rfl⟩
                      obtain ⟨s2, hs2⟩ : ∃ u : Int, u = s1 + u2 := ⟨_, rfl⟩
                      have a1 : IntKind.i64.wrap (256 * (p1 : Int)) = u1 := by rw [IntWalk.i64_in _ (by omega), hu1]
                      have a2 : IntKind.i64.wrap ((p0 : Int) + u1) = s1 := by rw [IntWalk.i64_in _ (by omega), hs1]
                      have a3 : IntKind.i64.wrap (65536 * (p2 : Int)) = u2 := by rw [IntWalk.i64_in _ (by omega), hu2]
                      have a4 : IntKind.i64.wrap (s1 + u2) = s2 := by rw [IntWalk.i64_in _ (by omega), hs2]
                      have a5 : IntKind.i64.wrap (16777216 * (p3 : Int)) = u3 := by rw [IntWalk.i64_in _ (by omega), hu3]
                      obtain ⟨s3, hs3⟩ : ∃ u : Int, u = s2 + u3 := ⟨_, rfl⟩
                      have a6 : IntKind.i64.wrap (s2 + u3) = s3 := by rw [IntWalk.i64_in _ (by omega), hs3]
                      clear hu1 hu2 hu3 hs1 hs2 hs3
                      obtain ⟨u1b, hu1⟩ : ∃ u : Int, u = 256 * (p2 : Int) := ⟨_, rfl⟩
                      obtain ⟨u2b, hu2⟩ : ∃ u : Int, u = 65536 * (p1 : Int) := ⟨_, rfl⟩
                      obtain ⟨u3b, hu3⟩ : ∃ u : Int, u = 16777216 * (p0 : Int) := ⟨_, rfl⟩
                      obtain ⟨s1b, hs1⟩ : ∃ u : Int, u = (p3 : Int) + u1b := ⟨_, rfl⟩
                      obtain ⟨s2b, hs2⟩ : ∃ u : Int, u = s1b + u2b := ⟨_, rfl⟩
                      have a1b : IntKind.i64.wrap (256 * (p2 : Int)) = u1b := by rw [IntWalk.i64_in _ (by omega), hu1]
                      have a2b : IntKind.i64.wrap ((p3 : Int) + u1b) = s1b := by rw [IntWalk.i64_in _ (by omega), hs1]
                      have a3b : IntKind.i64.wrap (65536 * (p1 : Int)) = u2b := by rw [IntWalk.i64_in _ (by omega), hu2]
                      have a4b : IntKind.i64.wrap (s1b + u2b) = s2b := by rw [IntWalk.i64_in _ (by omega), hs2]
                      have a5b : IntKind.i64.wrap (16777216 * (p0 : Int)) = u3b := by rw [IntWalk.i64_in _ (by omega), hu3]
                      have a6b : IntKind.i64.wrap (s2b + u3b) = (N : Int) := by rw [IntWalk.i64_in _ (by omega)]; omega
                      clear hu1 hu2 hu3 hs1 hs2
                      clear hN2
                      go_wp2_with fail
                      go_quiet (fail)
                      go_wp2_with fail
                      go_quiet (fail)
                      by_cases hw : m - j < N + 16
                      · have t4 : decide ((m : Int) - j - 16 < N) = true := decide_eq_true (by omega)
                        have HL2 := Lib.hid (show LoopOk true l2 D (j + 16 + N) true from ⟨(fun h => (by cases h)), fun _ => HSH.out hw, by omega⟩)
                        go_wp2_with fail
                        go_roundw
                        case rel => exact ⟨j + 16 + N, true, by go_num, rfl, Lib.hid (below_drewN HBW.out _), HL2⟩
                        case measure => simp [bOf, intOf]; omega
                      · have t4 : decide ((m : Int) - j - 16 < N) = false := decide_eq_false (by omega)
                        have HL2 := Lib.hid (HNX.out (by omega) (by omega))
                        go_wp2_with fail
                        go_roundw
                        case rel => exact ⟨j + 16 + N, false, by go_num, rfl, Lib.hid (below_drewN HBW.out _), HL2⟩
                        case measure => simp [bOf, intOf]; omega
                  · have t2 : decide ((j : Int) < m) = false := decide_eq_false (by omega)
                    have t2' : decide (j < m) = false := decide_eq_false hj
                    have HDF := Lib.hid (HLO.out.last (by rw [HL.out]; exact hj))
                    go_wp2_with fail
                    go_meet
                    exact ⟨by rw [HDF.out], HBW⟩
            case rest =>
              obtain ⟨rfl, HBC⟩ := hcut
              have B4 := Lib.hid (B3.out.trans (HBC.out.mono B3.out.size))
              have K4 := Lib.hid (HK3.out.below HBC.out HK3.out.lt)
              have f0 := K4.out.cell 0
              have f1 := K4.out.cell 1
              have f2 := K4.out.cell 2
              have f3 := K4.out.cell 3
              cases D with
              | true =>
                obtain ⟨rfl, rfl, rfl, rfl, rfl, rfl, rfl⟩ := HF.out.short HTK.out (by have := HD.out; rwa [eq_comm, Option.isNone_iff_eq_none] at this)
                go_wp2_with fail
                refine (HSMZ.out _).mono ?_
                rintro o w5 ⟨rfl, hb5⟩
                have B5 := Lib.hid (B4.out.trans (hb5.mono B4.out.size))
                clear hb5
                go_wp2_with fail
                refine (HAW.out _).mono ?_
                rintro o w6 ⟨rfl, hb6⟩
                have B6 := Lib.hid (B5.out.trans (hb6.mono B5.out.size))
                clear hb6
                go_wp2_with fail
                go_ret
                exact ⟨rfl, B6.out⟩
              | false =>
                obtain ⟨mm, hdec, hhas, hok, hm4, hres⟩ := HF.out.fin HTK.out (fun h => by have := HD.out; rw [h] at this; cases this)
                rcases hres with ⟨hz, rfl, rfl, rfl, rfl, hgc, hgm, hrd, rfl⟩ | ⟨hz, rfl, rfl, rfl, rfl, rfl, rfl, rfl⟩
                · have BX : Below w1.heap.size w1 wc := ((Below.refl w1.heap.size w1).alloc (Nat.le_refl _) _).trans ((HB3.out.mono (by simp)).trans (HBC.out.mono (by have := HB3.out.size; simp at this; omega)))
                  have henc := enc_dec true _ _ mm (Nat.le_refl _) (HBY.out.drop 24) hdec (fun e he => (hhas e he).2.1)
                  have hX : headB true gs gk ++ bodyB true mm = l2 := by rw [henc]; exact HH24.out HTK.out
                  have hbx : ∀ W, Below wc.heap.size wc W → Below w1.heap.size w1 W := fun W hW => BX.trans (hW.mono BX.size)
                  have HLR := Lib.hid (show ∀ W, Below wc.heap.size wc W → Calls Try.prog 9 #[.agg #[.bool true, .int .u32 (gs : Int), .int .u32 (gk : Int), .slice gA mm.length gc]] W fun o w' => o = .returned (.bool true) ∧ Below W.heap.size W w' from fun W hW => by
                    have := lright_any true gs gk gA gc mm W HSN.out (hrd.below (hbx W hW)) hok (fun e he => (hhas e he).2.2.2) hm4 hgc hgm
                    rw [hz] at this
                    exact this)
                  have HLB := Lib.hid (show ∀ W, Below wc.heap.size wc W → Calls Try.prog 13 #[.agg #[.bool true, .int .u32 (gs : Int), .int .u32 (gk : Int), .slice gA mm.length gc]] W (LBytesPost W l2) from fun W hW => by
                    have := lbytes_any true gs gk gA gc mm W HSN.out HLK.out (hrd.below (hbx W hW)) hok (fun e he => Has.below (hhas e he) (hbx W hW)) hm4 hgc hgm
                    rw [hX] at this
                    exact this)
                  obtain ⟨k, hk⟩ : ∃ k, k = mm.length := ⟨_, rfl⟩
                  rw [← hk] at HLR HLB K4 f3 ⊢
                  have HS := Lib.hid (show ∀ W : World, Below wc.heap.size wc W → (W.cell? ⟨w1.heap.size, 0, none⟩ = some (.bool true) ∧ W.cell? ⟨w1.heap.size, 1, none⟩ = some (.int .u32 (gs : Int)) ∧ W.cell? ⟨w1.heap.size, 2, none⟩ = some (.int .u32 (gk : Int)) ∧ W.cell? ⟨w1.heap.size, 3, none⟩ = some (.slice gA k gc) ∧ (convert 27 9 (.slice (some ⟨g, off, none⟩) m c2)).run Try.prog W = .ok (.string (strOfNums l2)) W) from fun W hW => by
                    have kk := K4.out.below hW K4.out.lt
                    have cc := HCV.out W m (Nat.le_refl _) (B4.out.trans (hW.mono B4.out.size))
                    rw [List.take_of_length_le (by rw [HL.out]; exact Nat.le_refl _)] at cc
                    exact ⟨kk.cell 0, kk.cell 1, kk.cell 2, kk.cell 3, cc⟩)
                  have K2 := Lib.hid ((Below.refl wc.heap.size wc).drew)
                  clear hz hdec hhas hok hm4 hgc hgm hrd henc hX hbx hk BX
                  go_wp2_with fail
                  go_region_held_law (fun w' => w'.cell? ⟨w1.heap.size, 0, none⟩ = some (.bool true) ∧ w'.cell? ⟨w1.heap.size, 1, none⟩ = some (.int .u32 (gs : Int)) ∧ w'.cell? ⟨w1.heap.size, 2, none⟩ = some (.int .u32 (gk : Int)) ∧ w'.cell? ⟨w1.heap.size, 3, none⟩ = some (.slice gA k gc) ∧ (convert 27 9 (.slice (some ⟨g, off, none⟩) m c2)).run Try.prog w' = .ok (.string (strOfNums l2)) w') (first | with_reducible exact HS.out _ K7.out | with_reducible exact HS.out _ K6.out | with_reducible exact HS.out _ K5.out | with_reducible exact HS.out _ K2.out)
                    (first
                      | (go_at_call 9; (with_reducible refine (HLR.out _ K2.out).mono ?_); rintro o w5 ⟨rfl, hb5⟩; have K5 := Lib.hid (K2.out.trans (hb5.mono K2.out.size)); clear hb5)
                      | (go_at_call 13; (with_reducible refine (HLB.out _ K5.out).mono ?_); rintro o w6 ⟨v6, rfl, ho6, hb6⟩; obtain ⟨A6, c6, rfl⟩ := own_slice ho6; have cvr := conv_row (c := c6) (own_row ho6) rfl; have K6 := Lib.hid (K5.out.trans (hb6.mono K5.out.size)); clear hb6 ho6)
                      | (go_at_call 10; (with_reducible refine (HAW.out _).mono ?_); rintro o w7 ⟨rfl, hb7⟩; have K7 := Lib.hid (K6.out.trans (hb7.mono K6.out.size)); clear hb7))
                  all_goals
                    go_wp2_with fail
                    go_ret
                    exact ⟨rfl, B4.out.trans (K7.out.mono B4.out.size)⟩
                · clear hz hdec hhas hok hm4
                  go_wp2_with fail
                  refine (HSMZ.out _).mono ?_
                  rintro o w5 ⟨rfl, hb5⟩
                  have B5 := Lib.hid (B4.out.trans (hb5.mono B4.out.size))
                  clear hb5
                  go_wp2_with fail
                  refine (HAW.out _).mono ?_
                  rintro o w6 ⟨rfl, hb6⟩
                  have B6 := Lib.hid (B5.out.trans (hb6.mono B5.out.size))
                  clear hb6
                  go_wp2_with fail
                  go_ret
                  exact ⟨rfl, B6.out⟩
          · have x16 : ((strOfNums (l2.take 16)).toList == (strOfNums (headZ true)).toList) = false := by rw [HC16.out]; exact decide_eq_false htake
            obtain ⟨rfl, rfl, rfl, rfl, rfl, rfl, rfl⟩ := HF.out.ver htake
            clear htake
            go_wp2_with fail
            refine (HSMZ.out _).mono ?_
            rintro o w5 ⟨rfl, hb5⟩
            have B5 := Lib.hid (B3.out.trans (hb5.mono B3.out.size))
            clear hb5
            go_wp2_with fail
            refine (HAW.out _).mono ?_
            rintro o w6 ⟨rfl, hb6⟩
            have B6 := Lib.hid (B5.out.trans (hb6.mono B5.out.size))
            clear hb6
            go_wp2_with fail
            go_ret
            exact ⟨rfl, B6.out⟩
        · have HRM := Lib.hid (read_main false (some ⟨g, off, none⟩) m c2 l2 wc hl (by omega) (by omega) hc1 hc2' hr hb (by rw [show ordN true (wAt l2 0) = wAt l2 0 from rfl]; exact beq_eq_false_iff_ne.mpr (by omega)) hmag2)
          have x1 : ((strOfNums (l2.take 4)).toList == [161, 178, 195, 212]) = false := by rw [HQ1.out]; exact decide_eq_false (fun h => hmag (HM1.out.mp h))
          have x2 : ((strOfNums (l2.take 4)).toList == [212, 195, 178, 161]) = true := by rw [HQ2.out]; exact decide_eq_true (HM2.out.mpr hmag2)
          clear hmag hmag2
          have HSN := Lib.hid (ordN_lt false (wAt_lt hb 16))
          have HLK := Lib.hid (ordN_lt false (wAt_lt hb 20))
          have HH24 := Lib.hid (fun h => head24 false l2 hb (by omega) h)
          have HL := Lib.hid hl
          have HR := Lib.hid hr
          have HBY := Lib.hid hb
          have HC16 := Lib.hid (show ((strOfNums (l2.take 16)).toList == (strOfNums (headZ false)).toList) = decide (l2.take 16 = headZ false) from str_eq (hb.take 16) (byte_headZ false))
          have HLZ := Lib.hid (show ∀ W, Calls Try.prog 13 #[.agg #[.bool false, .int .u32 0, .int .u32 0, .slice none 0 0]] W (LBytesPost W (headB false 0 0 ++ bodyB false [])) from fun W => lbytes_any false 0 0 none 0 [] W (by decide) (by decide) (.inl rfl) (by simp) (by simp) (by decide) (by decide) (by decide))
          obtain ⟨sn, hsn⟩ : ∃ sn, sn = ordN false (wAt l2 16) := ⟨_, rfl⟩
          obtain ⟨link, hlk⟩ : ∃ link, link = ordN false (wAt l2 20) := ⟨_, rfl⟩
          rw [← hsn] at HRM HSN HH24
          rw [← hlk] at HRM HLK HH24
          have HFIN := Lib.hid (show ∀ (o : Ending) (w' : World), ReadPost false sn link l2 wc o w' → ∃ (gb : Bool) (gs gk : Nat) (gA : Option Addr) (gn gc : Nat) (e : Int), o = .returned (.tuple #[.agg #[.bool gb, .int .u32 (gs : Int), .int .u32 (gk : Int), .slice gA gn gc], .int .i64 e]) ∧ Below wc.heap.size wc w' ∧ Fin false sn link l2 w' gb gs gk gA gn gc e from fun o w' h => fin_of h)
          clear hl hr hb hform hsn hlk
          go_wp2_with fail
          refine HRM.out.mono ?_
          intro o w1 hpost
          obtain ⟨gb, gs, gk, gA, gn, gc, e, rfl, hb1, hfin⟩ := HFIN.out o w1 hpost
          have HF := Lib.hid hfin
          have cv := HCV.out (w1.alloc (.cells #[.bool gb, .int .u32 (gs : Int), .int .u32 (gk : Int), .slice gA gn gc] 25)) 4 (by omega) (hb1.alloc hb1.size _)
          have B1 := Lib.hid (hb1.alloc hb1.size (.cells #[.bool gb, .int .u32 (gs : Int), .int .u32 (gk : Int), .slice gA gn gc] 25))
          have K1 := Lib.hid (Blk.new w1 25 #[.bool gb, .int .u32 (gs : Int), .int .u32 (gk : Int), .slice gA gn gc])
          have HB1 := Lib.hid hb1
          clear hb1 hfin hpost HFIN
          go_wp2_with fail
          refine (HLZ.out _).mono ?_
          rintro o w3 ⟨v3, rfl, ho3, hb3⟩
          obtain ⟨gz, cz, rfl, _, _, hcz, _, _, _⟩ := own_form ho3 (by decide)
          have k3 := K1.out.below hb3 K1.out.lt
          have f0 := k3.cell 0
          have f1 := k3.cell 1
          have f2 := k3.cell 2
          have f3 := k3.cell 3
          have HK3 := Lib.hid k3
          have B3 := Lib.hid (B1.out.trans (hb3.mono B1.out.size))
          have HB3 := Lib.hid hb3
          have cz3 := HCV.out w3 16 (by omega) B3.out
          have hz16 := (own_row ho3).take 16
          rw [← List.map_take] at hz16
          have hzz : (headB false 0 0 ++ bodyB false []).take 16 = headZ false := by
            unfold headZ
            rw [show bodyB false [] = [] from rfl, List.append_nil]
          rw [hzz] at hz16
          have cz4 := conv_row (c := cz) (n := 16) hz16 (headZ_len false)
          have hlz : (headB false 0 0 ++ bodyB false []).length = 24 := by rw [show bodyB false [] = [] from rfl, List.append_nil, headB_len]
          have sz := slice_to gz 0 (headB false 0 0 ++ bodyB false []).length cz 16 (by omega) (by omega)
          have rz : ∀ W : World, (Instr.slice 27 (.slice (some ⟨gz, 0, none⟩) (headB false 0 0 ++ bodyB false []).length cz) none (some (.int .i64 16)) none).run Try.prog W = .ok (.slice (some ⟨gz, 0, none⟩) 16 cz) W := sz.1
          have rz' : ∀ W : World, (Instr.sliceAt 27 (.slice (some ⟨gz, 0, none⟩) (headB false 0 0 ++ bodyB false []).length cz) none (some (.int .i64 16)) none).run Try.prog W = .ok (.slice (some ⟨gz, 0, none⟩) 16 cz) W := sz.2
          rw [hlz] at rz rz' ⊢
          clear sz hlz hzz hz16 ho3 hb3 k3
          by_cases htake : l2.take 16 = headZ false
          · have x16 : ((strOfNums (l2.take 16)).toList == (strOfNums (headZ false)).toList) = true := by rw [HC16.out]; exact decide_eq_true htake
            have HTK := Lib.hid htake
            clear htake
            obtain ⟨D, hD⟩ : ∃ D, D = (dec false (l2.drop 24)).isNone := ⟨_, rfl⟩
            have HD := Lib.hid hD
            have HLO0 := Lib.hid (show LoopOk false l2 D 24 false from ⟨fun _ => ⟨by rw [HL.out]; omega, hD.symm⟩, (fun h => (by cases h)), by omega⟩)
            clear hD
            go_upto_block 0 with fail
            go_cut [8] (fun v wx => v = .bool D ∧ Hid (Below w3.heap.size w3 wx))
            case first =>
              clear cv cz3 cz4 x1 x16 r4 r4' r16 r16' rz rz' f0 f1 f2 f3
              go_wp2_with fail
              go_loopw [7, 8] (fun a v wr => ∃ (j : Nat) (b : Bool), a = .int .i64 j ∧ v = .bool b ∧ Hid (Below w3.heap.size w3 wr) ∧ Hid (LoopOk false l2 D j b)) (fun a v _ => bOf v * (m + 1 - (intOf a).toNat))
              case atStart => exact ⟨24, false, rfl, rfl, Lib.hid (Below.refl _ _), HLO0⟩
              case round =>
                obtain ⟨j, b, rfl, rfl, HBW, HLO⟩ := hrel
                have hjb := HLO.out.2.2
                cases b with
                | true =>
                  have HDT := Lib.hid (HLO.out.2.1 rfl)
                  by_cases hj : j < m
                  · have t2 : decide ((j : Int) < m) = true := decide_eq_true (by omega)
                    have t2' : decide (j < m) = true := decide_eq_true hj
                    go_wp2_with fail
                    go_meet
                    exact ⟨by rw [HDT.out], HBW⟩
                  · have t2 : decide ((j : Int) < m) = false := decide_eq_false (by omega)
                    have t2' : decide (j < m) = false := decide_eq_false hj
                    go_wp2_with fail
                    go_meet
                    exact ⟨by rw [HDT.out], HBW⟩
                | false =>
                  by_cases hj : j < m
                  · have t2 : decide ((j : Int) < m) = true := decide_eq_true (by omega)
                    have t2' : decide (j < m) = true := decide_eq_true hj
                    by_cases h16 : m - j < 16
                    · have t3 : decide ((m : Int) - j < 16) = true := decide_eq_true (by omega)
                      have HDT := Lib.hid (HLO.out.short (by rw [HL.out]; exact hj) (.inl (by rw [HL.out]; exact h16)))
                      go_wp2_with fail
                      go_meet
                      exact ⟨by rw [HDT.out], HBW⟩
                    · have t3 : decide ((m : Int) - j < 16) = false := decide_eq_false (by omega)
                      have sii := slice_ii g off m c2 (j + 8) (j + 12) (by omega) (by omega) hc1 (by omega)
                      rw [show j + 12 - (j + 8) = 4 by omega] at sii
                      have rx : ∀ W : World, (Instr.slice 27 (.slice (some ⟨g, off, none⟩) m c2) (some (.int .i64 ((j : Int) + 8))) (some (.int .i64 ((j : Int) + 12))) none).run Try.prog W = .ok (.slice (some ⟨g, off + (j + 8), none⟩) 4 (c2 - (j + 8))) W := sii.1
                      have rx' : ∀ W : World, (Instr.sliceAt 27 (.slice (some ⟨g, off, none⟩) m c2) (some (.int .i64 ((j : Int) + 8))) (some (.int .i64 ((j : Int) + 12))) none).run Try.prog W = .ok (.slice (some ⟨g, off + (j + 8), none⟩) 4 (c2 - (j + 8))) W := sii.2
                      have hrw := HR.out.below (B3.out.trans (HBW.out.mono B3.out.size))
                      have d0 := row_get hrw HBY.out (j + 8) (by rw [HL.out]; omega)
                      have d1 := row_get hrw HBY.out (j + 8 + 1) (by rw [HL.out]; omega)
                      have d2 := row_get hrw HBY.out (j + 8 + 2) (by rw [HL.out]; omega)
                      have d3 := row_get hrw HBY.out (j + 8 + 3) (by rw [HL.out]; omega)
                      have b0 := getD_byte HBY.out (j + 8)
                      have b1 := getD_byte HBY.out (j + 8 + 1)
                      have b2 := getD_byte HBY.out (j + 8 + 2)
                      have b3 := getD_byte HBY.out (j + 8 + 3)
                      have hN := Lib.hid (show ordN false (wAt l2 (j + 8)) = (l2.getD (j + 8) 0).toNat + 256 * (l2.getD (j + 8 + 1) 0).toNat + 65536 * (l2.getD (j + 8 + 2) 0).toNat + 16777216 * (l2.getD (j + 8 + 3) 0).toNat from by
                        unfold wAt
                        exact low_word (by omega) (by omega) (by omega) (by omega))
                      have HNX := Lib.hid (fun a b => HLO.out.next (by rw [HL.out]; exact hj) a b (by rw [HL.out]; omega))
                      have HSH := Lib.hid (fun a => HLO.out.short (by rw [HL.out]; exact hj) (.inr a))
                      rw [HL.out] at HNX HSH
                      obtain ⟨p0, hp0⟩ : ∃ p0, p0 = (l2.getD (j + 8) 0).toNat := ⟨_, rfl⟩
                      obtain ⟨p1, hp1⟩ : ∃ p1, p1 = (l2.getD (j + 8 + 1) 0).toNat := ⟨_, rfl⟩
                      obtain ⟨p2, hp2⟩ : ∃ p2, p2 = (l2.getD (j + 8 + 2) 0).toNat := ⟨_, rfl⟩
                      obtain ⟨p3, hp3⟩ : ∃ p3, p3 = (l2.getD (j + 8 + 3) 0).toNat := ⟨_, rfl⟩
                      have k0 : p0 < 256 := by omega
                      have k1 : p1 < 256 := by omega
                      have k2 : p2 < 256 := by omega
                      have k3 : p3 < 256 := by omega
                      rw [← hp0] at d0 hN
                      rw [← hp1] at d1 hN
                      rw [← hp2] at d2 hN
                      rw [← hp3] at d3 hN
                      rw [← Nat.add_assoc] at d1 d2 d3
                      obtain ⟨N, hNN⟩ : ∃ N, N = ordN false (wAt l2 (j + 8)) := ⟨_, rfl⟩
                      rw [← hNN] at hN HNX HSH
                      have hN2 := hN.out
                      have hN3 : N < 4294967296 := by omega
                      obtain ⟨q8, hq8⟩ : ∃ q8, q8 = off + (j + 8) := ⟨_, rfl⟩
                      rw [← hq8] at rx rx' d0 d1 d2 d3
                      have g0 : (0 : Int) < 4 := by decide
                      clear hp0 hp1 hp2 hp3 b0 b1 b2 b3 hNN hrw sii hq8
                      have v0 : IntKind.i64.wrap (p0 : Int) = (p0 : Int) := IntWalk.i64_in _ (by omega)
                      have v1 : IntKind.i64.wrap (p1 : Int) = (p1 : Int) := IntWalk.i64_in _ (by omega)
                      have v2 : IntKind.i64.wrap (p2 : Int) = (p2 : Int) := IntWalk.i64_in _ (by omega)
                      have v3 : IntKind.i64.wrap (p3 : Int) = (p3 : Int) := IntWalk.i64_in _ (by omega)
                      obtain ⟨u1, hu1⟩ : ∃ u : Int, u = 256 * (p1 : Int) := ⟨_, rfl⟩
                      obtain ⟨u2, hu2⟩ : ∃ u : Int, u = 65536 * (p2 : Int) := ⟨_, rfl⟩
                      obtain ⟨u3, hu3⟩ : ∃ u : Int, u = 16777216 * (p3 : Int) := ⟨_, rfl⟩
                      obtain ⟨s1, hs1⟩ : ∃ u : Int, u = (p0 : Int) + u1 := ⟨_, rfl⟩
                      obtain ⟨s2, hs2⟩ : ∃ u : Int, u = s1 + u2 := ⟨_, rfl⟩
                      have a1 : IntKind.i64.wrap (256 * (p1 : Int)) = u1 := by rw [IntWalk.i64_in _ (by omega), hu1]
                      have a2 : IntKind.i64.wrap ((p0 : Int) + u1) = s1 := by rw [IntWalk.i64_in _ (by omega), hs1]
                      have a3 : IntKind.i64.wrap (65536 * (p2 : Int)) = u2 := by rw [IntWalk.i64_in _ (by omega), hu2]
                      have a4 : IntKind.i64.wrap (s1 + u2) = s2 := by rw [IntWalk.i64_in _ (by omega), hs2]
                      have a5 : IntKind.i64.wrap (16777216 * (p3 : Int)) = u3 := by rw [IntWalk.i64_in _ (by omega), hu3]
                      have a6 : IntKind.i64.wrap (s2 + u3) = (N : Int) := by rw [IntWalk.i64_in _ (by omega)]; omega
                      clear hu1 hu2 hu3 hs1 hs2
                      clear hN2
                      go_wp2_with fail
                      go_quiet (fail)
                      by_cases hw : m - j < N + 16
                      · have t4 : decide ((m : Int) - j - 16 < N) = true := decide_eq_true (by omega)
                        have HL2 := Lib.hid (show LoopOk false l2 D (j + 16 + N) true from ⟨(fun h => (by cases h)), fun _ => HSH.out hw, by omega⟩)
                        go_wp2_with fail
                        go_roundw
                        case rel => exact ⟨j + 16 + N, true, by go_num, rfl, Lib.hid (below_drewN HBW.out _), HL2⟩
                        case measure => simp [bOf, intOf]; omega
                      · have t4 : decide ((m : Int) - j - 16 < N) = false := decide_eq_false (by omega)
                        have HL2 := Lib.hid (HNX.out (by omega) (by omega))
                        go_wp2_with fail
                        go_roundw
                        case rel => exact ⟨j + 16 + N, false, by go_num, rfl, Lib.hid (below_drewN HBW.out _), HL2⟩
                        case measure => simp [bOf, intOf]; omega
                  · have t2 : decide ((j : Int) < m) = false := decide_eq_false (by omega)
                    have t2' : decide (j < m) = false := decide_eq_false hj
                    have HDF := Lib.hid (HLO.out.last (by rw [HL.out]; exact hj))
                    go_wp2_with fail
                    go_meet
                    exact ⟨by rw [HDF.out], HBW⟩
            case rest =>
              obtain ⟨rfl, HBC⟩ := hcut
              have B4 := Lib.hid (B3.out.trans (HBC.out.mono B3.out.size))
              have K4 := Lib.hid (HK3.out.below HBC.out HK3.out.lt)
              have f0 := K4.out.cell 0
              have f1 := K4.out.cell 1
              have f2 := K4.out.cell 2
              have f3 := K4.out.cell 3
              cases D with
              | true =>
                obtain ⟨rfl, rfl, rfl, rfl, rfl, rfl, rfl⟩ := HF.out.short HTK.out (by have := HD.out; rwa [eq_comm, Option.isNone_iff_eq_none] at this)
                go_wp2_with fail
                refine (HSMZ.out _).mono ?_
                rintro o w5 ⟨rfl, hb5⟩
                have B5 := Lib.hid (B4.out.trans (hb5.mono B4.out.size))
                clear hb5
                go_wp2_with fail
                refine (HAW.out _).mono ?_
                rintro o w6 ⟨rfl, hb6⟩
                have B6 := Lib.hid (B5.out.trans (hb6.mono B5.out.size))
                clear hb6
                go_wp2_with fail
                go_ret
                exact ⟨rfl, B6.out⟩
              | false =>
                obtain ⟨mm, hdec, hhas, hok, hm4, hres⟩ := HF.out.fin HTK.out (fun h => by have := HD.out; rw [h] at this; cases this)
                rcases hres with ⟨hz, rfl, rfl, rfl, rfl, hgc, hgm, hrd, rfl⟩ | ⟨hz, rfl, rfl, rfl, rfl, rfl, rfl, rfl⟩
                · have BX : Below w1.heap.size w1 wc := ((Below.refl w1.heap.size w1).alloc (Nat.le_refl _) _).trans ((HB3.out.mono (by simp)).trans (HBC.out.mono (by have := HB3.out.size; simp at this; omega)))
                  have henc := enc_dec false _ _ mm (Nat.le_refl _) (HBY.out.drop 24) hdec (fun e he => (hhas e he).2.1)
                  have hX : headB false gs gk ++ bodyB false mm = l2 := by rw [henc]; exact HH24.out HTK.out
                  have hbx : ∀ W, Below wc.heap.size wc W → Below w1.heap.size w1 W := fun W hW => BX.trans (hW.mono BX.size)
                  have HLR := Lib.hid (show ∀ W, Below wc.heap.size wc W → Calls Try.prog 9 #[.agg #[.bool false, .int .u32 (gs : Int), .int .u32 (gk : Int), .slice gA mm.length gc]] W fun o w' => o = .returned (.bool true) ∧ Below W.heap.size W w' from fun W hW => by
                    have := lright_any false gs gk gA gc mm W HSN.out (hrd.below (hbx W hW)) hok (fun e he => (hhas e he).2.2.2) hm4 hgc hgm
                    rw [hz] at this
                    exact this)
                  have HLB := Lib.hid (show ∀ W, Below wc.heap.size wc W → Calls Try.prog 13 #[.agg #[.bool false, .int .u32 (gs : Int), .int .u32 (gk : Int), .slice gA mm.length gc]] W (LBytesPost W l2) from fun W hW => by
                    have := lbytes_any false gs gk gA gc mm W HSN.out HLK.out (hrd.below (hbx W hW)) hok (fun e he => Has.below (hhas e he) (hbx W hW)) hm4 hgc hgm
                    rw [hX] at this
                    exact this)
                  obtain ⟨k, hk⟩ : ∃ k, k = mm.length := ⟨_, rfl⟩
                  rw [← hk] at HLR HLB K4 f3 ⊢
                  have HS := Lib.hid (show ∀ W : World, Below wc.heap.size wc W → (W.cell? ⟨w1.heap.size, 0, none⟩ = some (.bool false) ∧ W.cell? ⟨w1.heap.size, 1, none⟩ = some (.int .u32 (gs : Int)) ∧ W.cell? ⟨w1.heap.size, 2, none⟩ = some (.int .u32 (gk : Int)) ∧ W.cell? ⟨w1.heap.size, 3, none⟩ = some (.slice gA k gc) ∧ (convert 27 9 (.slice (some ⟨g, off, none⟩) m c2)).run Try.prog W = .ok (.string (strOfNums l2)) W) from fun W hW => by
                    have kk := K4.out.below hW K4.out.lt
                    have cc := HCV.out W m (Nat.le_refl _) (B4.out.trans (hW.mono B4.out.size))
                    rw [List.take_of_length_le (by rw [HL.out]; exact Nat.le_refl _)] at cc
                    exact ⟨kk.cell 0, kk.cell 1, kk.cell 2, kk.cell 3, cc⟩)
                  have K2 := Lib.hid ((Below.refl wc.heap.size wc).drew)
                  clear hz hdec hhas hok hm4 hgc hgm hrd henc hX hbx hk BX
                  go_wp2_with fail
                  go_region_held_law (fun w' => w'.cell? ⟨w1.heap.size, 0, none⟩ = some (.bool false) ∧ w'.cell? ⟨w1.heap.size, 1, none⟩ = some (.int .u32 (gs : Int)) ∧ w'.cell? ⟨w1.heap.size, 2, none⟩ = some (.int .u32 (gk : Int)) ∧ w'.cell? ⟨w1.heap.size, 3, none⟩ = some (.slice gA k gc) ∧ (convert 27 9 (.slice (some ⟨g, off, none⟩) m c2)).run Try.prog w' = .ok (.string (strOfNums l2)) w') (first | with_reducible exact HS.out _ K7.out | with_reducible exact HS.out _ K6.out | with_reducible exact HS.out _ K5.out | with_reducible exact HS.out _ K2.out)
                    (first
                      | (go_at_call 9; (with_reducible refine (HLR.out _ K2.out).mono ?_); rintro o w5 ⟨rfl, hb5⟩; have K5 := Lib.hid (K2.out.trans (hb5.mono K2.out.size)); clear hb5)
                      | (go_at_call 13; (with_reducible refine (HLB.out _ K5.out).mono ?_); rintro o w6 ⟨v6, rfl, ho6, hb6⟩; obtain ⟨A6, c6, rfl⟩ := own_slice ho6; have cvr := conv_row (c := c6) (own_row ho6) rfl; have K6 := Lib.hid (K5.out.trans (hb6.mono K5.out.size)); clear hb6 ho6)
                      | (go_at_call 10; (with_reducible refine (HAW.out _).mono ?_); rintro o w7 ⟨rfl, hb7⟩; have K7 := Lib.hid (K6.out.trans (hb7.mono K6.out.size)); clear hb7))
                  all_goals
                    go_wp2_with fail
                    go_ret
                    exact ⟨rfl, B4.out.trans (K7.out.mono B4.out.size)⟩
                · clear hz hdec hhas hok hm4
                  go_wp2_with fail
                  refine (HSMZ.out _).mono ?_
                  rintro o w5 ⟨rfl, hb5⟩
                  have B5 := Lib.hid (B4.out.trans (hb5.mono B4.out.size))
                  clear hb5
                  go_wp2_with fail
                  refine (HAW.out _).mono ?_
                  rintro o w6 ⟨rfl, hb6⟩
                  have B6 := Lib.hid (B5.out.trans (hb6.mono B5.out.size))
                  clear hb6
                  go_wp2_with fail
                  go_ret
                  exact ⟨rfl, B6.out⟩
          · have x16 : ((strOfNums (l2.take 16)).toList == (strOfNums (headZ false)).toList) = false := by rw [HC16.out]; exact decide_eq_false htake
            obtain ⟨rfl, rfl, rfl, rfl, rfl, rfl, rfl⟩ := HF.out.ver htake
            clear htake
            go_wp2_with fail
            refine (HSMZ.out _).mono ?_
            rintro o w5 ⟨rfl, hb5⟩
            have B5 := Lib.hid (B3.out.trans (hb5.mono B3.out.size))
            clear hb5
            go_wp2_with fail
            refine (HAW.out _).mono ?_
            rintro o w6 ⟨rfl, hb6⟩
            have B6 := Lib.hid (B5.out.trans (hb6.mono B5.out.size))
            clear hb6
            go_wp2_with fail
            go_ret
            exact ⟨rfl, B6.out⟩
end Go.Proofs.Ytmchedjeohhpcaa.pcapW
