/- Layer 2: the document's own words of a text. -/
import Derived.Test.YtlipemjidjjenaaMixE
namespace Go.Proofs.Ytlipemjidjjenaa.mixF
open Go.ChangeShapes Go.WideShapes Go.ChangeAt Go.RowKit
open Go.Proofs.Ytlipemjidjjenaa.mixA Go.Proofs.Ytlipemjidjjenaa.base Go.Proofs.Ytlipemjidjjenaa.mixD Go.Proofs.Ytlipemjidjjenaa.mixE
set_option linter.unusedVariables false

def rwPre (l : List Int) (k : Nat) : List Int := if k % 8 = 0 then l ++ [0] else l
def rw_ (s : ByteArray) : Nat → List Int
  | 0 => []
  | k + 1 => putb (rwPre (rw_ s k) k) k (byteAt s k)
theorem rw_len (s : ByteArray) (k : Nat) : (rw_ s k).length = (k + 7) / 8 := by
  induction k with
  | zero => rfl
  | succ k ih =>
    simp only [rw_, putb, List.length_set, rwPre]
    split
    · simp [ih]; omega
    · rw [ih]; omega
def vals (l : List Int) : List Value := l.map (.int .u64)
theorem vals_set (l : List Int) (i : Nat) (v : Int) : (vals l).set i (.int .u64 v) = vals (l.set i v) := by simp [vals, List.map_set]
theorem vals_get (l : List Int) (i : Nat) (h : i < l.length) : (vals l)[i]? = some (.int .u64 (l.getD i 0)) := by
  simp [vals, List.getD_eq_getElem?_getD, h]

theorem words_any (s : ByteArray) (hs : s.size ≤ 200) (w : World) :
    Calls Try.prog 67 #[.string s] w fun e w' => ∃ v, e = .returned v ∧ w'.ownsRow w.heap.size 22 1 v ((s.size + 7) / 8) (vals (rw_ s s.size)) ∧ Below w.heap.size w w' := by
  obtain ⟨i0, hi0, hz0, hz1, hz2⟩ := info_parts info_u64
  have HI0 := Lib.hid hi0
  have HZ0 := Lib.hid hz0
  have HZ1 := Lib.hid hz1
  have HZ2 := Lib.hid hz2
  clear hi0 hz0 hz1 hz2
  go_enter Try.func67, Try.ntmps67
  go_wp2
  go_loopw [3, 4, 5] (fun out i j wr => ∃ (k n : Nat), k ≤ s.size ∧ i = .int .i64 k ∧ Hid (n = (k + 7) / 8) ∧ wr.ownsRow w.heap.size 22 1 out n (vals (rw_ s k)) ∧ Below w.heap.size w wr) (fun _ i _ _ => s.size - (intOf i).toNat)
  case atStart => exact ⟨0, 0, by omega, rfl, rfl, World.ownsRow_nil _ _ _ _, Below.refl _ _⟩
  case round =>
    obtain ⟨k, n, hk, rfl, HN, hown, hbel⟩ := hrel
    by_cases hlt : k < s.size
    · have hl := rw_len s k
      have HBel := Lib.hid hbel
      have HOwn := Lib.hid hown
      have hbs := hbel.size
      clear hbel hown
      have hn2 : n ≤ 25 + k / 8 := by have := HN.out; omega
      have hlen : (rw_ s k).length = n := by rw [HN.out]; exact hl
      have HL := Lib.hid hlen
      clear hl hlen
      by_cases hz : k % 8 = 0
      · have hz1 : (((k : Int) % 8) == 0) = true := by simp; omega
        have hnk : k / 8 = n := by have := HN.out; omega
        have hpre : putb (rw_ s k ++ [0]) k (byteAt s k) = rw_ s (k + 1) := by simp [rw_, rwPre, hz]
        have HNK := Lib.hid hnk
        have HP := Lib.hid hpre
        clear hz hnk hpre
        go_wp2_with (at_builtin; refine wpList_append_own _ rfl (.tmp 15) (.tmp 16) _ rfl w.heap.size 22 i0 _ 1 8 Try.underlying33 HI0.out HZ0.out HZ1.out HZ2.out rfl (by omega) _ n _ rfl (HOwn.out.alloc _) ⟨wr.heap.size, 0, none⟩ 1 1 [.int .u64 0] rfl rfl (one_new _ _ _) (by simp [Value.oneCell']) (by unfold maxLen; omega) (by omega) (by simp; omega) ?_; intro v1 w1 hown1 hg1 _; have HO1 := Lib.hid hown1; have HG1 := Lib.hid hg1; clear hown1 hg1; obtain ⟨g, cap, rfl, hg0, hg1, hg2, hg3, hg4, hg5⟩ := own_form HO1.out (by omega))
        have hc : w1.cell? ⟨g, n, none⟩ = some (.int .u64 ((rw_ s k ++ [0]).getD n 0)) := by
          rw [hg4 n (by omega)]
          have := vals_get (rw_ s k ++ [0]) n (by simp [HL.out])
          simpa [vals] using this
        have hf := hg5 n
        clear hg4 hg5
        generalize hx : (rw_ s k ++ [0]).getD n 0 = x at *
        have HX := Lib.hid hx
        clear hx
        unfold maxLen at hg3
        go_region
        go_wp2_with fail
        go_roundw
        case rel =>
          have hb1 := below_grown (HBel.out.alloc hbs (.cells #[.int .u64 0] 22)) (HOwn.out.alloc _) (Nat.le_refl _) (by simp; omega) HG1.out
          refine ⟨k + 1, n + 1, by omega, by go_num, ?_, ?_, ?_⟩
          · have := HN.out; have := HNK.out; show n + 1 = (k + 1 + 7) / 8; omega
          · have := (own_stored HO1.out n (.int .u64 (bits .or .u64 x (IntKind.u64.wrap (IntKind.u64.wrap (s[k].toNat : Int) * 2 ^ (8 * (k % 8))))))).drew
            have e : vals (rw_ s k) ++ [.int .u64 0] = vals (rw_ s k ++ [0]) := by simp [vals]
            rw [e, vals_set, byteAt_eq s k hlt] at this
            rw [byteAt_eq s k hlt, ← HP.out]
            unfold putb
            rw [HNK.out, HX.out]
            exact this
          · exact (hb1.setCell hg0 _).drew
        case measure => simp [intOf]; omega
      · have hz1 : (((k : Int) % 8) == 0) = false := by simp; omega
        obtain ⟨m, rfl⟩ : ∃ m, n = m + 1 := ⟨n - 1, by have := HN.out; omega⟩
        have hnk : k / 8 = m := by have := HN.out; omega
        have hpre : putb (rw_ s k) k (byteAt s k) = rw_ s (k + 1) := by simp [rw_, rwPre, hz]
        have HNK := Lib.hid hnk
        have HP := Lib.hid hpre
        clear hz hnk hpre
        obtain ⟨g, cap, rfl, hg0, hg1, hg2, hg3, hg4, hg5⟩ := own_form HOwn.out (by omega)
        have hc : wr.cell? ⟨g, m, none⟩ = some (.int .u64 ((rw_ s k).getD m 0)) := by
          rw [hg4 m (by omega)]
          exact vals_get (rw_ s k) m (by rw [HL.out]; omega)
        have hf := hg5 m
        clear hg4 hg5
        generalize hx : (rw_ s k).getD m 0 = x at *
        have HX := Lib.hid hx
        clear hx
        unfold maxLen at hg3
        go_wp2_with fail
        go_region
        go_wp2_with fail
        go_roundw
        case rel =>
          refine ⟨k + 1, m + 1, by omega, by go_num, ?_, ?_, ?_⟩
          · have := HN.out; have := HNK.out; show m + 1 = (k + 1 + 7) / 8; omega
          · have := (own_stored HOwn.out m (.int .u64 (bits .or .u64 x (IntKind.u64.wrap (IntKind.u64.wrap (s[k].toNat : Int) * 2 ^ (8 * (k % 8))))))).drew
            rw [vals_set, byteAt_eq s k hlt] at this
            rw [byteAt_eq s k hlt, ← HP.out]
            unfold putb
            rw [HNK.out, HX.out]
            exact this
          · exact (HBel.out.setCell hg0 _).drew
        case measure => simp [intOf]; omega
    · obtain rfl : k = s.size := by omega
      obtain ⟨A, c, rfl⟩ := own_slice hown
      have HOwn := Lib.hid hown
      have HBel := Lib.hid hbel
      clear hown hbel
      go_wp2
      go_ret
      exact ⟨_, rfl, by rw [← HN.out]; exact HOwn.out, HBel.out⟩
end Go.Proofs.Ytlipemjidjjenaa.mixF
