/- Layer 11: a datagram as bytes. -/
import Derived.Test.YtgikoljnmmnkkaaUdpA
import Derived.Laws.CopyOwn
namespace Go.Proofs.Ytgikoljnmmnkkaa.udpB
open Go.ChangeShapes Go.WideShapes Go.ChangeAt Go.RowKit
open Go.Proofs.Ytgikoljnmmnkkaa.base Go.Proofs.Ytgikoljnmmnkkaa.sumA Go.Proofs.Ytgikoljnmmnkkaa.sumB Go.Proofs.Ytgikoljnmmnkkaa.octA Go.Proofs.Ytgikoljnmmnkkaa.octB Go.Proofs.Ytgikoljnmmnkkaa.octC Go.Proofs.Ytgikoljnmmnkkaa.octE Go.Proofs.Ytgikoljnmmnkkaa.octF Go.Proofs.Ytgikoljnmmnkkaa.rdrA Go.Proofs.Ytgikoljnmmnkkaa.udpA
set_option linter.unusedVariables false

def ports (sp dp : Int) : Prop := 0 ≤ sp ∧ sp ≤ 65535 ∧ 0 ≤ dp ∧ dp ≤ 65535
def chkZ (l : List Int) : Int := if 65535 - fo (wsum l) = 0 then 65535 else 65535 - fo (wsum l)
theorem chkZ_in (l : List Int) (hb : ∀ x ∈ l, 0 ≤ x ∧ x ≤ 255) : 0 ≤ chkZ l ∧ chkZ l ≤ 65535 := by
  have := fo_bd (wsum l) (wsum_bd l hb).1
  unfold chkZ
  split <;> omega
/-- A header with a check, and what is behind it. -/
def ub (sp dp : Int) (pl : List Int) (chk : Int) : List Int := allb 2 [sp, dp, ((8 + pl.length : Nat) : Int)] ++ pb chk 2 2 ++ pl
theorem ub_len (sp dp : Int) (pl : List Int) (chk : Int) : (ub sp dp pl chk).length = 8 + pl.length := by
  simp [ub, allb_len, pb_len]; omega
theorem splice_one (six pl : List Int) (h6 : six.length = 6) : splice (splice (List.replicate (8 + pl.length) (0 : Int)) 0 six) 8 pl = six ++ [0, 0] ++ pl := by
  have e : List.replicate (8 + pl.length) (0 : Int) = List.replicate 6 0 ++ ([0, 0] ++ List.replicate pl.length 0) := by
    rw [show 8 + pl.length = 6 + (2 + pl.length) by omega, ← List.replicate_append_replicate, ← List.replicate_append_replicate]
    rfl
  have s1 : splice (List.replicate (8 + pl.length) (0 : Int)) 0 six = six ++ [0, 0] ++ List.replicate pl.length 0 := by
    rw [e]
    unfold splice
    rw [h6, List.take_zero, List.nil_append, Nat.zero_add, List.drop_append, List.drop_of_length_le (by simp)]
    simp
  rw [s1]
  unfold splice
  rw [List.take_append, List.take_of_length_le (by simp [h6]), List.drop_append, List.drop_of_length_le (by simp [h6])]
  simp [h6]
theorem splice_two (six pl ck : List Int) (h6 : six.length = 6) (h2 : ck.length = 2) : splice (six ++ [0, 0] ++ pl) 6 ck = six ++ ck ++ pl := by
  unfold splice
  rw [List.append_assoc, List.take_append, List.take_of_length_le (by omega), List.drop_append, List.drop_of_length_le (by omega), h6, h2]
  simp
theorem ub_zero (sp dp : Int) (pl : List Int) : ub sp dp pl 0 = allb 2 [sp, dp, ((8 + pl.length : Nat) : Int)] ++ [0, 0] ++ pl := by
  unfold ub
  rw [show pb 0 2 2 = [0, 0] by decide]
theorem ub_in (sp dp : Int) (pl : List Int) (chk : Int) (hb : ∀ x ∈ pl, 0 ≤ x ∧ x ≤ 255) : ∀ x ∈ ub sp dp pl chk, 0 ≤ x ∧ x ≤ 255 := by
  intro x hx
  unfold ub at hx
  rw [List.mem_append, List.mem_append] at hx
  rcases hx with (hx | hx) | hx
  · exact allb_in 2 _ x hx
  · unfold pb at hx
    rw [List.mem_map] at hx
    obtain ⟨i, _, rfl⟩ := hx
    exact byteZ_in _ _
  · exact hb x hx
def BPost (w : World) (n : Nat) (l : List Int) (e : Ending) (w' : World) : Prop :=
  ∃ v, e = .returned (.tuple #[v, .int .i64 0]) ∧ w'.ownsRow w.heap.size 5 1 v n (l.map (.int .u8)) ∧ Below w.heap.size w w'
end Go.Proofs.Ytgikoljnmmnkkaa.udpB
