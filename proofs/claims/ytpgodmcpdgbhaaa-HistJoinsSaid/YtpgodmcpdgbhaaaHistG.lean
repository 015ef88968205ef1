/- Layer 38: numbers are added to a histogram. -/
import Derived.Test.YtpgodmcpdgbhaaaHistF
namespace Go.Proofs.Ytpgodmcpdgbhaaa.histG
open Go.ChangeShapes Go.WideShapes Go.ChangeAt Go.RowKit
open Go.Proofs.Ytpgodmcpdgbhaaa.base Go.Proofs.Ytpgodmcpdgbhaaa.countA Go.Proofs.Ytpgodmcpdgbhaaa.countC Go.Proofs.Ytpgodmcpdgbhaaa.countE Go.Proofs.Ytpgodmcpdgbhaaa.countG Go.Proofs.Ytpgodmcpdgbhaaa.histA Go.Proofs.Ytpgodmcpdgbhaaa.histD Go.Proofs.Ytpgodmcpdgbhaaa.histF
set_option linter.unusedVariables false

/-- The histogram at g says what these numbers say; nothing else below B has changed. -/
def HistAt (g B : Nat) (L : List Int) (w0 w : World) : Prop := ∃ cs f, Blk w g 56 cs ∧ At70 cs f ∧ IsStat f L ∧ But g B w0 w
theorem take_next (l : List Int) (j : Nat) (h : j < l.length) : l.take (j + 1) = l.take j ++ [l[j]] := by rw [List.take_add_one, List.getElem?_eq_getElem h]; rfl
theorem row_j {w wr : World} {g : Nat} {A : Option Addr} {l : List Int} (hr : Row w g A (l.map (.int .u64))) (hg : g < w.heap.size) (hb : But g w.heap.size w wr) (j : Nat) (hj : j < l.length) :
    ∃ b off, A = some ⟨b, off, none⟩ ∧ wr.cell? ⟨b, off + j, none⟩ = some (.int .u64 l[j]) := by
  obtain ⟨b, off, rfl, hlt, hc⟩ := hr.at_ (by intro h; simp at h; rw [h] at hj; simp at hj)
  refine ⟨b, off, rfl, ?_⟩
  have h1 := hc j (.int .u64 l[j]) (by simp [hj])
  have h2 := hb.block b (by omega) (by omega)
  rw [← h1]
  simp only [World.cell?, h2]
theorem but_trans {g B C : Nat} {a w w' : World} (h : But g B a w) (h2 : But g C w w') (hBC : B ≤ C) : But g B a w' :=
  ⟨h2.os.trans h.os, h2.tape.trans h.tape, h2.output.trans h.output, Nat.le_trans h.size h2.size, fun k hk hn => (h2.block k (by omega) hn).trans (h.block k hk hn)⟩
set_option maxRecDepth 100000 in
set_option maxHeartbeats 4000000 in
theorem add_at (g : Nat) (A : Option Addr) (n c : Nat) (L l : List Int) (w : World) (hl : l.length = n) (hn : n ≤ 500) (hL : L.length ≤ 500) (uL : U64 L) (ul : U64 l) (hr : Row w g A (l.map (.int .u64))) (hg : g < w.heap.size) (h : HistAt g w.heap.size L w w) :
    Calls Try.prog 18 #[.pointer (some ⟨g, 0, none⟩), .slice A n c] w fun e w' => e = .returned (.tuple #[]) ∧ HistAt g w.heap.size (L ++ l) w w' := by
  have HL := Lib.hid hl
  have HLL := Lib.hid hL
  have UL := Lib.hid uL
  have Ul := Lib.hid ul
  have HR := Lib.hid hr
  have HG := Lib.hid hg
  have H0 := Lib.hid h
  clear hl hL uL ul hr hg h
  obtain ⟨Z, hZ0⟩ : ∃ Z : Array Value, Z = Z70 := ⟨_, rfl⟩
  have hz : ∀ w : World, (zeroValue 56).run Try.prog w = .ok (.agg Z) w := by rw [hZ0]; exact (zero_of_info zero70).1
  have HZ := Lib.hid hZ0
  have sz : Z.size = 70 := by rw [hZ0]; exact z70_at.1
  have sz2 : ¬ Z = #[] := by intro h; rw [h] at sz; cases sz
  clear hZ0
  go_enter Try.func18, Try.ntmps18
  go_wp2_with fail
  go_loopw [11, 5, 6] (fun i _ _ wr => ∃ j : Nat, j ≤ n ∧ i = .int .i64 j ∧ HistAt g w.heap.size (L ++ l.take j) w wr) (fun i _ _ _ => n - (intOf i).toNat)
  case atStart => exact ⟨0, by omega, rfl, by simpa using H0.out⟩
  case round =>
    obtain ⟨j, hj, rfl, hT⟩ := hrel
    have HT := Lib.hid hT
    by_cases hjn : j < n
    · have p1 : decide ((j : Int) < (n : Int)) = true := decide_eq_true (by omega)
      have hjl : j < l.length := by rw [HL.out]; exact hjn
      obtain ⟨cs, f, hB, hA, hS, hbut⟩ := hT
      obtain ⟨b, off, rfl, hcell⟩ := row_j HR.out HG.out hbut j hjl
      have hx := Ul.out l[j] (List.getElem_mem hjl)
      have EX := Lib.hid (take_next l j hjl)
      generalize l[j] = x at *
      have HX := Lib.hid hx
      have KB := Lib.hid hB
      have KA := Lib.hid hA
      have KS := Lib.hid hS
      have KT := Lib.hid hbut
      have xb := bl_le x hx.1 hx.2
      have e65 : (x.toNat : Int) = x := by omega
      have HBU := Lib.hid (show ∀ w, Calls Try.prog 30 #[.int .u64 x] w fun e w' => e = .returned (.int .i64 (bl x)) ∧ w = w' by have := bucket_any x.toNat (by omega); rw [e65] at this; exact this)
      clear e65 hB hA hS hbut hx
      obtain ⟨c1, W2, hst, A1, B1, B2, B3, B4⟩ : ∃ c1 W2, (storeCells ⟨wr.heap.size, 0, none⟩ (((((Z.toList.set 65 (.int .u64 1)).set 66 (.int .u64 0)).set 67 (.int .u64 x)).set 68 (.int .u64 x)).set 69 (.int .u64 x)) 0).run Try.prog (wr.alloc (.cells Z 56)) = .ok () W2 ∧ At70 c1 (put (put (put (put (put (fun _ => 0) 65 1) 66 0) 67 x) 68 x) 69 x) ∧ Blk W2 wr.heap.size 56 c1 ∧ Blk W2 g 56 cs ∧ Below wr.heap.size wr W2 ∧ W2.heap.size = wr.heap.size + 1 := by
        have F0 := Blk.new wr 56 Z
        have Z0 : At70 Z (fun _ => 0) := by rw [HZ.out]; exact z70_at
        have A1 := at_put (at_put (at_put (at_put (at_put Z0 65 (by omega) 1) 66 (by omega) 0) 67 (by omega) x) 68 (by omega) x) 69 (by omega) x
        have hst := store_blk F0 (c' := (((((Z.setIfInBounds 65 (.int .u64 1)).setIfInBounds 66 (.int .u64 0)).setIfInBounds 67 (.int .u64 x)).setIfInBounds 68 (.int .u64 x)).setIfInBounds 69 (.int .u64 x))) (by rw [A1.1]; kernel_rfl) (by rw [Z0.1, A1.1]) (at70_one A1)
        simp only [Array.toList_setIfInBounds] at hst
        have hgr := KB.out.lt
        exact ⟨_, _, hst, A1, blk_setRow F0 _, blk_setRow_far (KB.out.alloc _) (by omega) _, below_setRow ((Below.refl _ _).alloc (Nat.le_refl _) _) (Nat.le_refl _) _, by simp [World.setRow]⟩
      have KA1 := Lib.hid A1
      have KB1 := Lib.hid B1
      have KB2 := Lib.hid B2
      have KB3 := Lib.hid B3
      have KB4 := Lib.hid B4
      have cb := (B1.cell (bl x)).trans (A1.2 (bl x) (by omega))
      have fb := B1.frozen (bl x)
      clear A1 B1 B2 B3 B4
      have xb64 : bl x < 65 := by omega
      clear xb
      obtain ⟨q, hq⟩ : ∃ q, q = bl x := ⟨_, rfl⟩
      have HQ := Lib.hid hq
      rw [← hq] at HBU cb fb xb64
      clear hq
      go_wp2_with (go_at_call 30; refine (HBU.out _).mono ?_; rintro e w' ⟨rfl, rfl⟩)
      have hgr := KB.out.lt
      have nga : wr.heap.size ≠ g := by omega
      have s3 : (W2.setCell ⟨wr.heap.size, q, none⟩ (.int .u64 1)).heap.size = wr.heap.size + 1 := by rw [← KB4.out]; simp
      have one := one_stat x HX.out.1 HX.out.2
      have ux : U64 [x] := fun y hy => by rw [List.mem_singleton] at hy; rw [hy]; exact HX.out
      have HTWO : Two g wr.heap.size (W2.setCell ⟨wr.heap.size, q, none⟩ (.int .u64 1)).heap.size f (oneZ x) (W2.setCell ⟨wr.heap.size, q, none⟩ (.int .u64 1)) (W2.setCell ⟨wr.heap.size, q, none⟩ (.int .u64 1)) :=
        ⟨_, _, KB2.out.far (p := ⟨wr.heap.size, q, none⟩) (Ne.symm nga) _, KA.out, KB1.out.set_ q _, by have := at_put KA1.out q (by omega) 1; rw [HQ.out] at this ⊢; exact this, But.refl _ _ _⟩
      have hlt1 : (L ++ l.take j).length ≤ 1000 := by rw [List.length_append, List.length_take, HL.out]; have := HLL.out; omega
      have hu1 : U64 (L ++ l.take j) := UL.out.app fun y hy => Ul.out y (List.mem_of_mem_take hy)
      obtain ⟨f1, f2, f3⟩ := KS.out.fits one hu1 ux hlt1 (by simp)
      have x65 : oneZ x 65 ≠ 0 := by rw [one.len]; simp
      refine (join_at g wr.heap.size f (oneZ x) _ nga HTWO x65 f1 f2 f3).mono ?_
      rintro e w4 ⟨rfl, hT⟩
      obtain ⟨cs4, xs4, hB4, hA4, _, _, hbut4⟩ := hT
      have HF := Lib.hid (show HistAt g w.heap.size (L ++ l.take (j + 1)) w w4 by
        refine ⟨cs4, _, hB4, hA4, ?_, but_trans (KT.out.below ((KB3.out.mono KT.out.size).setCell (p := ⟨wr.heap.size, q, none⟩) KT.out.size _)) hbut4 (by rw [s3]; have := KT.out.size; omega)⟩
        have := KS.out.join one (by simp) hu1 ux
        rw [List.append_assoc, ← EX.out] at this
        exact this)
      clear hB4 hA4 hbut4 f1 f2 f3 x65 hlt1 hu1 HTWO one ux s3 hst cb fb hgr nga
      go_wp2_with fail
      go_roundw
      case rel => exact ⟨j + 1, by omega, by go_num, HF.out⟩
      case measure => simp [intOf]; omega
    · obtain rfl : j = n := by omega
      have HF := Lib.hid (show HistAt g w.heap.size (L ++ l) w wr by rw [← HL.out, List.take_length] at hT; exact hT)
      have p1 : decide ((j : Int) < (j : Int)) = false := decide_eq_false (by omega)
      clear hT
      go_wp2_with fail
      exact bodyPost_end (v := .tuple #[]) (by simp [results, Try.results18, go_sem]) rfl ⟨rfl, HF.out⟩
end Go.Proofs.Ytpgodmcpdgbhaaa.histG
