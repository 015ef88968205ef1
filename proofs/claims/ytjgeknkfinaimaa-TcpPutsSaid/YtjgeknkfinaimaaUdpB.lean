/- Layer 11: a datagram as bytes. -/
import Derived.Test.YtjgeknkfinaimaaUdpA
import Derived.Laws.CopyOwn
namespace Go.Proofs.Ytjgeknkfinaimaa.udpB
open Go.ChangeShapes Go.WideShapes Go.ChangeAt Go.RowKit
open Go.Proofs.Ytjgeknkfinaimaa.base Go.Proofs.Ytjgeknkfinaimaa.sumA Go.Proofs.Ytjgeknkfinaimaa.sumB Go.Proofs.Ytjgeknkfinaimaa.octA Go.Proofs.Ytjgeknkfinaimaa.octB Go.Proofs.Ytjgeknkfinaimaa.octC Go.Proofs.Ytjgeknkfinaimaa.octE Go.Proofs.Ytjgeknkfinaimaa.octF Go.Proofs.Ytjgeknkfinaimaa.rdrA Go.Proofs.Ytjgeknkfinaimaa.udpA
set_option linter.unusedVariables false

def ports (sp dp : Int) : Prop := 0 ≤ sp ∧ sp ≤ 65535 ∧ 0 ≤ dp ∧ dp ≤ 65535
theorem right_yes (sp dp : Int) (bare : Bool) (w : World) (h : ports sp dp) :
    Calls Try.prog 14 #[.agg #[.int .i64 sp, .int .i64 dp, .bool bare]] w fun e w' => e = .returned (.bool true) ∧ w.alloc (.cells #[.int .i64 sp, .int .i64 dp, .bool bare] 28) = w' := by
  obtain ⟨h1, h2, h3, h4⟩ := h
  go_enter Try.func14, Try.ntmps14
  go_wp2
  go_ret
  exact ⟨rfl, rfl⟩
theorem right_no (sp dp : Int) (bare : Bool) (w : World) (h : ¬ ports sp dp) :
    Calls Try.prog 14 #[.agg #[.int .i64 sp, .int .i64 dp, .bool bare]] w fun e w' => e = .returned (.bool false) ∧ w.alloc (.cells #[.int .i64 sp, .int .i64 dp, .bool bare] 28) = w' := by
  have h' : sp < 0 ∨ (0 ≤ sp ∧ 65535 < sp) ∨ (0 ≤ sp ∧ sp ≤ 65535 ∧ dp < 0) ∨ (0 ≤ sp ∧ sp ≤ 65535 ∧ 0 ≤ dp ∧ 65535 < dp) := by unfold ports at h; omega
  clear h
  rcases h' with h | ⟨h1, h⟩ | ⟨h1, h2, h⟩ | ⟨h1, h2, h3, h⟩
  all_goals
    first | (have q : decide (dp ≤ 65535) = false := decide_eq_false (by omega)) | skip
    go_enter Try.func14, Try.ntmps14
    go_wp2
    go_ret
    exact ⟨rfl, rfl⟩
theorem lawright_yes (sp dp : Int) (bare : Bool) (w : World) (h : ports sp dp) :
    Calls Try.prog 15 #[.agg #[.int .i64 sp, .int .i64 dp, .bool bare]] w fun e w' => e = .returned (.bool true) ∧ w.alloc (.cells #[.int .i64 sp, .int .i64 dp, .bool bare] 28) = w' := by
  obtain ⟨h1, h2, h3, h4⟩ := h
  go_enter Try.func15, Try.ntmps15
  go_wp2
  go_ret
  exact ⟨rfl, rfl⟩
theorem lawright_no (sp dp : Int) (bare : Bool) (w : World) (h : ¬ ports sp dp) :
    Calls Try.prog 15 #[.agg #[.int .i64 sp, .int .i64 dp, .bool bare]] w fun e w' => e = .returned (.bool false) ∧ w.alloc (.cells #[.int .i64 sp, .int .i64 dp, .bool bare] 28) = w' := by
  have h' : sp < 0 ∨ (0 ≤ sp ∧ 65535 < sp) ∨ (0 ≤ sp ∧ sp ≤ 65535 ∧ dp < 0) ∨ (0 ≤ sp ∧ sp ≤ 65535 ∧ 0 ≤ dp ∧ 65535 < dp) := by unfold ports at h; omega
  clear h
  rcases h' with h | ⟨h1, h⟩ | ⟨h1, h2, h⟩ | ⟨h1, h2, h3, h⟩
  all_goals
    first | (have q : decide (dp ≤ 65535) = false := decide_eq_false (by omega)) | skip
    go_enter Try.func15, Try.ntmps15
    go_wp2
    go_ret
    exact ⟨rfl, rfl⟩
theorem cut_any (A : Option Addr) (n c : Nat) (w : World) (hnc : n ≤ c) (hc : c ≤ 9223372036854775807) (hA : ∀ x, A = some x → 300 < n → ∃ b off, x = ⟨b, off, none⟩) (hA2 : A = none → n = 0) :
    Calls Try.prog 10 #[.slice A n c] w fun e w' => e = .returned (.slice A (min n 300 : Nat) c) ∧ w = w' := by
  by_cases h : 300 < n
  · have hm : min n 300 = 300 := by omega
    rw [hm]
    have hd : decide ((300 : Int) < (n : Int)) = true := by simp; omega
    cases A with
    | none => have := hA2 rfl; omega
    | some x =>
      obtain ⟨b, off, rfl⟩ := hA x rfl h
      clear hA hA2 hm
      go_enter Try.func10, Try.ntmps10
      go_wp2_with fail
      go_ret
      exact ⟨rfl, rfl⟩
  · have hm : min n 300 = n := by omega
    rw [hm]
    have hd : decide ((300 : Int) < (n : Int)) = false := by simp; omega
    clear hA hA2 hm
    go_enter Try.func10, Try.ntmps10
    go_wp2_with fail
    go_ret
    exact ⟨rfl, rfl⟩
def chkZ (l : List Int) : Int := if 65535 - fo (wsum l) = 0 then 65535 else 65535 - fo (wsum l)
theorem chkZ_in (l : List Int) (hb : ∀ x ∈ l, 0 ≤ x ∧ x ≤ 255) : 0 ≤ chkZ l ∧ chkZ l ≤ 65535 := by
  have := fo_bd (wsum l) (wsum_bd l hb).1
  unfold chkZ
  split <;> omega
theorem check_any (A1 A2 : Option Addr) (n1 n2 c1 c2 : Nat) (l1 l2 : List Int) (W : World) (h1 : l1.length = n1) (h2 : l2.length = n2) (k1 : n1 ≤ 100000) (k2 : n2 ≤ 100000)
    (r1 : Row W W.heap.size A1 (l1.map (.int .u8))) (r2 : Row W W.heap.size A2 (l2.map (.int .u8)))
    (b1 : ∀ x ∈ l1, 0 ≤ x ∧ x ≤ 255) (b2 : ∀ x ∈ l2, 0 ≤ x ∧ x ≤ 255) :
    Calls Try.prog 27 #[.slice A1 n1 c1, .slice A2 n2 c2] W fun e w' => e = .returned (.int .u16 (chkZ (l1 ++ l2))) ∧ Below W.heap.size W w' := by
  obtain ⟨x, y⟩ := two (c1 := c1) (c2 := c2) h1 h2 r1 r2 b1 b2 (Below.refl _ _) 23
  have e : flat [⟨A1, c1, l1⟩, ⟨A2, c2, l2⟩] = l1 ++ l2 := by simp [flat]
  have hc := Go.Proofs.Ytjgeknkfinaimaa.sumC.check_any (some ⟨W.heap.size, 0, none⟩) 2 2 [⟨A1, c1, l1⟩, ⟨A2, c2, l2⟩] (W.alloc (.cells #[.slice A1 n1 c1, .slice A2 n2 c2] 23)) (W.heap.size + 1) rfl (by omega) (by rw [e, List.length_append, h1, h2]; omega) x y
  rw [e] at hc
  have hbd := fo_bd (wsum (l1 ++ l2)) (wsum_bd _ (fun x hx => (List.mem_append.1 hx).elim (b1 x) (b2 x))).1
  have HC := Lib.hid hc
  have hz : chkZ (l1 ++ l2) = if 65535 - fo (wsum (l1 ++ l2)) = 0 then 65535 else 65535 - fo (wsum (l1 ++ l2)) := rfl
  have HZ := Lib.hid hz
  clear hc x y e r1 r2 b1 b2 h1 h2 hz
  generalize 65535 - fo (wsum (l1 ++ l2)) = s at *
  by_cases hs : s = 0
  · rw [if_pos hs] at HZ
    subst hs
    rw [HZ.out]
    go_enter Try.func27, Try.ntmps27
    go_wp2_with fail
    refine HC.out.mono ?_
    rintro e w' ⟨rfl, rfl⟩
    go_wp2_with fail
    go_ret
    exact ⟨rfl, (Below.refl _ _).alloc (Nat.le_refl _) _⟩
  · rw [if_neg hs] at HZ
    rw [HZ.out]
    have t1 : (s != 0) = true := by simpa using hs
    go_enter Try.func27, Try.ntmps27
    go_wp2_with fail
    refine HC.out.mono ?_
    rintro e w' ⟨rfl, rfl⟩
    go_wp2_with fail
    go_ret
    exact ⟨rfl, (Below.refl _ _).alloc (Nat.le_refl _) _⟩
/-- A header with a check, and what is behind it. -/
def ub (sp dp : Int) (pl : List Int) (chk : Int) : List Int := allb 2 [sp, dp, ((8 + pl.length : Nat) : Int)] ++ pb chk 2 2 ++ pl
theorem ub_len (sp dp : Int) (pl : List Int) (chk : Int) : (ub sp dp pl chk).length = 8 + pl.length := by
  simp [ub, allb_len, pb_len]; omega
theorem splice_one (six pl : List Int) (h6 : six.length = 6) : splice (splice (List.replicate (8 + pl.length) (0 : Int)) 0 six) 8 pl = six ++ [0, 0] ++ pl := by
  have e : List.replicate (8 + pl.length) (0 : Int) = List.replicate 6 0 ++ ([0, 0] ++ List.replicate pl.length 0) := by
    rw [show 8 + pl.length = 6 + (2 + pl.length) by omega, ← List.replicate_append_replicate, ← List.replicate_append_replicate]
    rfl
  have s1 : splice (List.replicate (8 + pl.length) (0 : Int)) 0 six = six ++ [0, 0] ++ List.replicate pl.length 0 := by
    rw [e]
    unfold splice
    rw [h6, List.take_zero, List.nil_append, Nat.zero_add, List.drop_append, List.drop_of_length_le (by simp)]
    simp
  rw [s1]
  unfold splice
  rw [List.take_append, List.take_of_length_le (by simp [h6]), List.drop_append, List.drop_of_length_le (by simp [h6])]
  simp [h6]
theorem splice_two (six pl ck : List Int) (h6 : six.length = 6) (h2 : ck.length = 2) : splice (six ++ [0, 0] ++ pl) 6 ck = six ++ ck ++ pl := by
  unfold splice
  rw [List.append_assoc, List.take_append, List.take_of_length_le (by omega), List.drop_append, List.drop_of_length_le (by omega), h6, h2]
  simp
theorem ub_zero (sp dp : Int) (pl : List Int) : ub sp dp pl 0 = allb 2 [sp, dp, ((8 + pl.length : Nat) : Int)] ++ [0, 0] ++ pl := by
  unfold ub
  rw [show pb 0 2 2 = [0, 0] by decide]
theorem ub_in (sp dp : Int) (pl : List Int) (chk : Int) (hb : ∀ x ∈ pl, 0 ≤ x ∧ x ≤ 255) : ∀ x ∈ ub sp dp pl chk, 0 ≤ x ∧ x ≤ 255 := by
  intro x hx
  unfold ub at hx
  rw [List.mem_append, List.mem_append] at hx
  rcases hx with (hx | hx) | hx
  · exact allb_in 2 _ x hx
  · unfold pb at hx
    rw [List.mem_map] at hx
    obtain ⟨i, _, rfl⟩ := hx
    exact byteZ_in _ _
  · exact hb x hx
theorem bytes_wrong (sp dp : Int) (bare : Bool) (A A2 : Option Addr) (n c n2 c2 : Nat) (w : World) (h : ¬ ports sp dp) :
    Calls Try.prog 9 #[.agg #[.int .i64 sp, .int .i64 dp, .bool bare], .slice A n c, .slice A2 n2 c2] w fun e w' => e = .returned (.tuple #[.slice none 0 0, .int .i64 1]) ∧ Below w.heap.size w w' := by
  have H := Lib.hid (fun w => right_no sp dp bare w h)
  clear h
  go_enter Try.func9, Try.ntmps9
  go_wp2_with fail
  refine (H.out _).mono ?_
  rintro e w' ⟨rfl, rfl⟩
  go_wp2_with fail
  go_ret2
  exact ⟨rfl, ((Below.refl _ _).alloc (Nat.le_refl _) _).alloc (by simp) _⟩
theorem bytes_big (sp dp : Int) (bare : Bool) (A A2 : Option Addr) (n c n2 c2 : Nat) (w : World) (h : ports sp dp) (hn : 65527 < n) (hn2 : n ≤ 1000000) :
    Calls Try.prog 9 #[.agg #[.int .i64 sp, .int .i64 dp, .bool bare], .slice A n c, .slice A2 n2 c2] w fun e w' => e = .returned (.tuple #[.slice none 0 0, .int .i64 25]) ∧ Below w.heap.size w w' := by
  have H := Lib.hid (fun w => right_yes sp dp bare w h)
  clear h
  go_enter Try.func9, Try.ntmps9
  go_wp2_with fail
  refine (H.out _).mono ?_
  rintro e w' ⟨rfl, rfl⟩
  go_wp2_with fail
  go_ret2
  exact ⟨rfl, ((Below.refl _ _).alloc (Nat.le_refl _) _).alloc (by simp) _⟩
def BPost (w : World) (n : Nat) (l : List Int) (e : Ending) (w' : World) : Prop :=
  ∃ v, e = .returned (.tuple #[v, .int .i64 0]) ∧ w'.ownsRow w.heap.size 5 1 v n (l.map (.int .u8)) ∧ Below w.heap.size w w'
end Go.Proofs.Ytjgeknkfinaimaa.udpB
