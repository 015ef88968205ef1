/- Layer 36: a file that is read: what is none. -/
import Derived.Test.YtmchedjeohhpcaaPcapL
namespace Go.Proofs.Ytmchedjeohhpcaa.pcapM
open Go.ChangeShapes Go.WideShapes Go.ChangeAt Go.RowKit
open Go.Proofs.Ytmchedjeohhpcaa.base Go.Proofs.Ytmchedjeohhpcaa.pcapA Go.Proofs.Ytmchedjeohhpcaa.pcapB Go.Proofs.Ytmchedjeohhpcaa.pcapC Go.Proofs.Ytmchedjeohhpcaa.pcapD Go.Proofs.Ytmchedjeohhpcaa.pcapE Go.Proofs.Ytmchedjeohhpcaa.pcapF Go.Proofs.Ytmchedjeohhpcaa.pcapG Go.Proofs.Ytmchedjeohhpcaa.pcapI Go.Proofs.Ytmchedjeohhpcaa.pcapJ Go.Proofs.Ytmchedjeohhpcaa.pcapK Go.Proofs.Ytmchedjeohhpcaa.pcapL
set_option linter.unusedVariables false

/-- What a record says. -/
structure Re where
  sec : Nat
  mic : Nat
  sz : Nat
  bs : List Int
def Rc.re (e : Rc) : Re := ⟨e.sec, e.mic, e.sz, e.bs⟩
instance (big : Bool) (x : List Int) : Decidable (shortB big x) := by unfold shortB; infer_instance
def reOf (big : Bool) (x : List Int) : Re := ⟨ordN big (wAt x 0), ordN big (wAt x 4), ordN big (wAt x 12), (x.drop 16).take (payN big x)⟩
/-- Bytes as records; none: they are none. -/
def dec (big : Bool) (x : List Int) : Option (List Re) :=
  if h : x = [] then some [] else
    if h2 : shortB big x then none else (dec big (x.drop (payN big x + 16))).map fun l => reOf big x :: l
termination_by x.length
decreasing_by
  have : x.length ≠ 0 := fun e => h (List.eq_nil_of_length_eq_zero e)
  rw [List.length_drop]
  omega
theorem dec_nil (big : Bool) : dec big [] = some [] := by rw [dec]; simp
theorem dec_short (big : Bool) (x : List Int) (h : x ≠ []) (h2 : shortB big x) : dec big x = none := by rw [dec]; simp [h, h2]
theorem dec_step (big : Bool) (x : List Int) (h : x ≠ []) (h2 : ¬ shortB big x) : dec big x = (dec big (x.drop (payN big x + 16))).map fun l => reOf big x :: l := by rw [dec]; simp [h, h2]
def fileZ : Array Value := #[.bool false, .int .u32 0, .int .u32 0, .slice none 0 0]
theorem size_file : (Try.prog.info? 25).map (·.size) = some 4 := by kernel_rfl
theorem results_file {fn : Func} {p u : Tmp} (h : fn.results = #[.cell p 25, .tmp u]) (tmps : Array Value) (w : World) (g : Nat) (cs : Array Value) (hp : tmps.getD p undef = .pointer (some ⟨g, 0, none⟩)) (hg : Blk w g 25 cs) (hs : cs.size = 4) :
    (results fn tmps).run Try.prog w = .ok (.tuple #[.agg cs, tmps.getD u undef]) w := by
  rw [results_cell_tmp h, hp]
  simp only [asAddr, Sem.run_pure, Result.andThen_ok]
  rw [run_loadVar_row w g 25 25 cs (0, 0) _ hg Try.underlying25 rfl (by rw [hs]; exact size_file)]
  rfl
set_option maxHeartbeats 4000000 in
set_option maxRecDepth 100000 in
theorem read_short (A : Option Addr) (n c : Nat) (w : World) (hn : n < 24) :
    Calls Try.prog 11 #[.slice A n c] w fun o w' => o = .returned (.tuple #[.agg fileZ, .int .i64 2]) ∧ Below w.heap.size w w' := by
  have t1 : decide ((n : Int) < 24) = true := decide_eq_true (by omega)
  unfold fileZ
  go_enter Try.func11, Try.ntmps11
  go_wp2_with fail
  exact bodyPost_ret (results_file rfl _ _ w.heap.size #[.bool false, .int .u32 0, .int .u32 0, .slice none 0 0] rfl (Blk.new _ _ _) rfl) rfl ⟨rfl, (Below.refl _ _).alloc (Nat.le_refl _) _⟩
def magicN : Nat := 2712847316
set_option maxHeartbeats 4000000 in
set_option maxRecDepth 100000 in
theorem read_form (A : Option Addr) (n c : Nat) (l : List Int) (w : World) (hl : l.length = n) (hn : n ≤ 5000) (h24 : 24 ≤ n) (hr : Row w w.heap.size A (l.map (.int .u8))) (hb : Byte l) (h1 : wAt l 0 ≠ 2712847316) (h2 : ordN false (wAt l 0) ≠ 2712847316) :
    Calls Try.prog 11 #[.slice A n c] w fun o w' => o = .returned (.tuple #[.agg fileZ, .int .i64 4]) ∧ Below w.heap.size w w' := by
  have t1 : decide ((n : Int) < 24) = false := decide_eq_false (by omega)
  obtain ⟨g, off, rfl, _⟩ := hr.at_ (by intro h; rw [List.map_eq_nil_iff] at h; subst h; simp at hl; omega)
  have HC := Lib.hid (show ∀ big W, Below w.heap.size w W → Calls Try.prog 19 #[.slice (some ⟨g, off, none⟩) n c, .bool big, .int .i64 0] W fun e w' => e = .returned (.int .u32 ((ordN big (wAt l 0) : Nat) : Int)) ∧ Below W.heap.size W w' from fun big W hb2 => word_bel big g off c 0 n l w.heap.size W hl (hr.below hb2) hb (by omega) (by omega))
  have h3 : ordN true (wAt l 0) = wAt l 0 := rfl
  rw [← h3] at h1
  have t2 : (((ordN true (wAt l 0) : Nat) : Int) == 2712847316) = false := beq_eq_false_iff_ne.mpr (by omega)
  have t3 : (((ordN false (wAt l 0) : Nat) : Int) != 2712847316) = true := bne_iff_ne.mpr (by omega)
  have HC1 := Lib.hid (HC.out true)
  have HC2 := Lib.hid (HC.out false)
  obtain ⟨a, ha⟩ : ∃ a, a = ordN true (wAt l 0) := ⟨_, rfl⟩
  obtain ⟨b, hb3⟩ : ∃ b, b = ordN false (wAt l 0) := ⟨_, rfl⟩
  rw [← ha] at t2 HC1
  rw [← hb3] at t3 HC2
  have B0 := Lib.hid (show Below w.heap.size w (w.alloc (.cells #[.bool false, .int .u32 0, .int .u32 0, .slice none 0 0] 25)) from (Below.refl w.heap.size w).alloc (Nat.le_refl _) _)
  have K0 := Lib.hid (Blk.new w 25 #[.bool false, .int .u32 0, .int .u32 0, .slice none 0 0])
  clear hr hb hl h1 h2 h3 ha hb3 HC
  unfold fileZ
  go_enter Try.func11, Try.ntmps11
  go_wp2_with fail
  refine (HC1.out _ B0.out).mono ?_
  rintro o w1 ⟨rfl, hb1⟩
  have B1 := Lib.hid (B0.out.trans (hb1.mono B0.out.size))
  have K1 := Lib.hid (K0.out.below hb1 K0.out.lt)
  have F1 := Lib.hid (Blk.new w1 25 #[.bool false, .int .u32 0, .int .u32 0, .slice none 0 0])
  have B1a := Lib.hid (B1.out.alloc B1.out.size (.cells #[.bool false, .int .u32 0, .int .u32 0, .slice none 0 0] 25))
  clear hb1
  go_wp2_with fail
  refine (HC2.out _ B1a.out).mono ?_
  rintro o w2 ⟨rfl, hb2⟩
  have B2 := B1a.out.trans (hb2.mono B1a.out.size)
  have K2 := (K1.out.alloc (.cells #[.bool false, .int .u32 0, .int .u32 0, .slice none 0 0] 25)).below hb2 (K1.out.alloc _).lt
  have z0 := K2.cell 0
  have z1 := K2.cell 1
  have z2 := K2.cell 2
  have z3 := K2.cell 3
  have y0 := K2.frozen 0
  have y1 := K2.frozen 1
  have y2 := K2.frozen 2
  have y3 := K2.frozen 3
  have KR := Lib.hid (show Blk ((((w2.setCell ⟨w.heap.size, 0, none⟩ (.bool false)).setCell ⟨w.heap.size, 1, none⟩ (.int .u32 0)).setCell ⟨w.heap.size, 2, none⟩ (.int .u32 0)).setCell ⟨w.heap.size, 3, none⟩ (.slice none 0 0)) w.heap.size 25 #[.bool false, .int .u32 0, .int .u32 0, .slice none 0 0] from (((K2.set_ 0 _).set_ 1 _).set_ 2 _).set_ 3 _)
  have BR := Lib.hid ((((B2.setCell (p := ⟨w.heap.size, 0, none⟩) (Nat.le_refl _) (.bool false)).setCell (p := ⟨w.heap.size, 1, none⟩) (Nat.le_refl _) (.int .u32 0)).setCell (p := ⟨w.heap.size, 2, none⟩) (Nat.le_refl _) (.int .u32 0)).setCell (p := ⟨w.heap.size, 3, none⟩) (Nat.le_refl _) (.slice none 0 0))
  clear B2 K2 hb2
  go_wp2_with fail
  exact bodyPost_ret (results_file rfl _ _ w.heap.size #[.bool false, .int .u32 0, .int .u32 0, .slice none 0 0] rfl KR.out rfl) rfl ⟨rfl, BR.out⟩
end Go.Proofs.Ytmchedjeohhpcaa.pcapM
