/- Layer 38: the sum of many numbers. -/
import Derived.Test.YtpgodmcpdgbhaaaHistG
namespace Go.Proofs.Ytpgodmcpdgbhaaa.histJ
open Go.ChangeShapes Go.WideShapes Go.ChangeAt Go.RowKit
open Go.Proofs.Ytpgodmcpdgbhaaa.base Go.Proofs.Ytpgodmcpdgbhaaa.wideA Go.Proofs.Ytpgodmcpdgbhaaa.histF
set_option linter.unusedVariables false

theorem addLo_any (s x : Int) (s0 : 0 ≤ s) (s1 : s < 1208925819614629174706176) (x0 : 0 ≤ x) (x1 : x < 18446744073709551616) (w : World) :
    Calls Try.prog 46 #[.agg #[.int .u64 (s / 18446744073709551616), .int .u64 (s % 18446744073709551616)], .agg #[.int .u64 0, .int .u64 x]] w fun e w' => e = .returned (.tuple #[.agg #[.int .u64 ((s + x) / 18446744073709551616), .int .u64 ((s + x) % 18446744073709551616)], .bool true]) ∧ Below w.heap.size w w' := by
  have h := numAdd_ok (s / 18446744073709551616) (s % 18446744073709551616) 0 x (by omega) (by omega) (by omega) (by omega) (by omega) (by omega) x0 x1 (by omega) w
  have e1 : s / 18446744073709551616 + 0 + (s % 18446744073709551616 + x) / 18446744073709551616 = (s + x) / 18446744073709551616 := by omega
  have e2 : (s % 18446744073709551616 + x) % 18446744073709551616 = (s + x) % 18446744073709551616 := by omega
  rw [e1, e2] at h
  exact h
theorem sum_snoc (l : List Int) (x : Int) : (l ++ [x]).sum = l.sum + x := by simp
theorem sum_any (A : Option Addr) (n c : Nat) (l : List Int) (w : World) (hn : l.length = n) (hl : n ≤ 1000) (hb : ∀ x ∈ l, 0 ≤ x ∧ x < 18446744073709551616) (hr : Row w w.heap.size A (l.map (.int .u64))) :
    Calls Try.prog 37 #[.slice A n c] w fun e w' => e = .returned (.tuple #[.agg #[.int .u64 (l.sum / 18446744073709551616), .int .u64 (l.sum % 18446744073709551616)], .bool true]) ∧ Below w.heap.size w w' := by
  have HR := Lib.hid hr
  have HN := Lib.hid hn
  have HB := Lib.hid hb
  clear hr hn hb
  go_enter Try.func37, Try.ntmps37
  go_wp2_with fail
  go_loopw [12, 6, 7, 8] (fun i a b d wr => ∃ (k : Nat) (s : Int), k ≤ n ∧ i = .int .i64 k ∧ Hid (s = (l.take k).sum) ∧ 0 ≤ s ∧ s < 1208925819614629174706176 ∧ Blk wr w.heap.size 54 #[.int .u64 0, .int .u64 0] ∧ Blk wr (w.heap.size + 1) 54 #[.int .u64 (s / 18446744073709551616), .int .u64 (s % 18446744073709551616)] ∧ Below w.heap.size w wr) (fun i _ _ _ _ => n - (intOf i).toNat)
  case atStart =>
    refine ⟨0, 0, by omega, rfl, rfl, by omega, by omega, ?_, ?_, ((Below.refl _ _).alloc (Nat.le_refl _) _).alloc (by simp) _⟩
    · exact (Blk.new w _ _).alloc _
    · have := Blk.new (w.alloc (.cells #[.int .u64 0, .int .u64 0] 54)) 54 #[.int .u64 0, .int .u64 0]
      simpa using this
  case round =>
    obtain ⟨k, s, hk, rfl, HS, s0, s1, hb0, hb1, hbel⟩ := hrel
    by_cases hlt : k < n
    · have hkl : k < l.length := by rw [HN.out]; exact hlt
      obtain ⟨b, off, rfl, hbl, hc⟩ := HR.out.at_ (by intro h; simp at h; rw [h] at hkl; simp at hkl)
      have hcell : wr.cell? ⟨b, off + k, none⟩ = some (.int .u64 (l[k])) := by rw [hbel.cell hbl]; exact hc k _ (by simp [hkl])
      have hs : (l.take (k + 1)).sum = s + l[k] := by rw [histG.take_next l k hkl, sum_snoc, HS.out]
      have hx := HB.out l[k] (List.getElem_mem hkl)
      have HS2 := Lib.hid hs
      have hsb := sum_bound (l.take (k + 1)) (fun x hx => HB.out x (List.mem_of_mem_take hx))
      rw [hs] at hsb
      have hsl : (l.take (k + 1)).length ≤ 1000 := by rw [List.length_take]; omega
      clear hs hc
      generalize l[k] = x at *
      obtain ⟨x0, x1⟩ := hx
      have hs2 : s + x < 1208925819614629174706176 := by omega
      have hs3 : 0 ≤ s + x := by omega
      clear hsb hsl
      have ha0 : wr.cell? ⟨w.heap.size + 1, 0, none⟩ = some (.int .u64 (s / 18446744073709551616)) := hb1.cell 0
      have ha1 : wr.cell? ⟨w.heap.size + 1, 1, none⟩ = some (.int .u64 (s % 18446744073709551616)) := hb1.cell 1
      have hbs := hb1.lt
      have HB0 := Lib.hid hb0
      have HB1 := Lib.hid hb1
      have HBel := Lib.hid hbel
      clear hb0 hb1 hbel
      go_wp2_with fail
      refine (addLo_any s x s0 s1 x0 x1 _).mono ?_
      rintro e w1 ⟨rfl, hbw⟩
      have HBW := Lib.hid hbw
      have hbs1 : w.heap.size + 1 < w1.heap.size := by have := hbw.size; omega
      have hf0 : w1.frozen? ⟨w.heap.size + 1, 0, none⟩ = false := (HB1.out.below hbw hbs).frozen 0
      have hf1 : w1.frozen? ⟨w.heap.size + 1, 1, none⟩ = false := (HB1.out.below hbw hbs).frozen 1
      have hg0 : w1.cell? ⟨w.heap.size + 1, 0, none⟩ = some (.int .u64 (s / 18446744073709551616)) := (HB1.out.below hbw hbs).cell 0
      have hg1 : w1.cell? ⟨w.heap.size + 1, 1, none⟩ = some (.int .u64 (s % 18446744073709551616)) := (HB1.out.below hbw hbs).cell 1
      clear hbw
      go_wp2_with fail
      go_roundw
      case rel =>
        refine ⟨k + 1, s + x, by omega, by go_num, HS2.out.symm, hs3, hs2, ?_, ?_, ?_⟩
        · exact ((((HB0.out.below HBW.out (by omega)).far (p := ⟨_, 0, none⟩) (by simp) _).far (p := ⟨_, 1, none⟩) (by simp) _).alloc _)
        · have := (((HB1.out.below HBW.out hbs).set_ 0 (.int .u64 ((s + x) / 18446744073709551616))).set_ 1 (.int .u64 ((s + x) % 18446744073709551616)))
          exact (by simpa using this : Blk _ _ _ _).alloc _
        · exact (((HBel.out.trans (HBW.out.mono (by omega))).setCell (p := ⟨_, 0, none⟩) (by simp) _).setCell (p := ⟨_, 1, none⟩) (by simp) _).alloc (by simp; omega) _
      case measure => simp [intOf]; omega
    · have hfin : s = l.sum := by rw [HS.out, List.take_of_length_le (by rw [HN.out]; omega)]
      have ha0 : wr.cell? ⟨w.heap.size + 1, 0, none⟩ = some (.int .u64 (s / 18446744073709551616)) := hb1.cell 0
      have ha1 : wr.cell? ⟨w.heap.size + 1, 1, none⟩ = some (.int .u64 (s % 18446744073709551616)) := hb1.cell 1
      have hc0 : wr.cell? ⟨w.heap.size, 0, none⟩ = some (.int .u64 0) := hb0.cell 0
      have hc1 : wr.cell? ⟨w.heap.size, 1, none⟩ = some (.int .u64 0) := hb0.cell 1
      have hf0 : wr.frozen? ⟨w.heap.size, 0, none⟩ = false := hb0.frozen 0
      have hf1 : wr.frozen? ⟨w.heap.size, 1, none⟩ = false := hb0.frozen 1
      have HBel := Lib.hid hbel
      have HF := Lib.hid hfin
      clear hb0 hb1 hbel hfin
      go_wp2
      refine bodyPost_ret (v := .tuple #[.agg #[.int .u64 (s / 18446744073709551616), .int .u64 (s % 18446744073709551616)], .bool true]) (by simp [results, Try.results37, go_sem, hc0, hc1]) rfl ?_
      exact ⟨by rw [← HF.out], (HBel.out.setCell (p := ⟨_, 0, none⟩) (by simp) _).setCell (p := ⟨_, 1, none⟩) (by simp) _⟩
end Go.Proofs.Ytpgodmcpdgbhaaa.histJ
