/- Layer 9: the chapter's example. -/
import Derived.Test.YtndekicblbpkjaaSixQ
namespace Go.Proofs.Ytndekicblbpkjaa.sixR
open Go.ChangeShapes Go.WideShapes Go.ChangeAt Go.RowKit
open Go.Proofs.Ytndekicblbpkjaa.base Go.Proofs.Ytndekicblbpkjaa.octA Go.Proofs.Ytndekicblbpkjaa.octB Go.Proofs.Ytndekicblbpkjaa.octC Go.Proofs.Ytndekicblbpkjaa.octF Go.Proofs.Ytndekicblbpkjaa.octK Go.Proofs.Ytndekicblbpkjaa.net Go.Proofs.Ytndekicblbpkjaa.rdrA Go.Proofs.Ytndekicblbpkjaa.rdrG Go.Proofs.Ytndekicblbpkjaa.sumA Go.Proofs.Ytndekicblbpkjaa.sumB Go.Proofs.Ytndekicblbpkjaa.udpA Go.Proofs.Ytndekicblbpkjaa.tcpC Go.Proofs.Ytndekicblbpkjaa.sixW Go.Proofs.Ytndekicblbpkjaa.sixM Go.Proofs.Ytndekicblbpkjaa.snK Go.Proofs.Ytndekicblbpkjaa.sixA Go.Proofs.Ytndekicblbpkjaa.sixB Go.Proofs.Ytndekicblbpkjaa.sixC Go.Proofs.Ytndekicblbpkjaa.sixD Go.Proofs.Ytndekicblbpkjaa.sixE Go.Proofs.Ytndekicblbpkjaa.sixF Go.Proofs.Ytndekicblbpkjaa.sixG Go.Proofs.Ytndekicblbpkjaa.sixH Go.Proofs.Ytndekicblbpkjaa.sixK Go.Proofs.Ytndekicblbpkjaa.sixO Go.Proofs.Ytndekicblbpkjaa.sixQ
set_option linter.unusedVariables false

def exH : Hs := ⟨0, 0, 0, true, 0, 0, true, 0, 0, 6⟩
theorem exR : RightH exH [] := ⟨by decide, by decide, by decide, by decide, by decide, by decide, rfl, rfl, by decide, by decide, by decide, RightE.nil⟩
theorem exB : ∃ t, sixB exH [] [] = 96 :: t ∧ t.length = 39 := ⟨(sixB exH [] []).tail, by decide, by decide⟩
theorem rdx_nil (w : World) (A : Option Addr) : RdX w A [] := ⟨.inl rfl, fun o ho => by cases ho⟩

theorem ex_any (w : World) : Calls Try.prog 18 #[.agg #[.int .i64 0, .int .i64 0, .int .i64 0, .bool true, .int .u64 0, .int .u64 0, .bool true, .int .u64 0, .int .u64 0, .slice none 0 0, .int .i64 6], .slice none 0 0] w fun o w' => ∃ g c, o = .returned (.tuple #[.slice (some ⟨g, 0, none⟩) 40 c, .int .i64 0]) ∧ w'.cell? ⟨g, 0, none⟩ = some (.int .u8 96) ∧ Below w.heap.size w w' := by
  refine (bytes_any exH none 0 0 [] none 0 0 [] w rfl (rdx_nil w none) (by omega) exR ⟨by decide, by decide⟩ ⟨by decide, by decide⟩ ⟨by decide, by decide⟩ ⟨by decide, by decide⟩ rfl (.inl rfl) (by omega) (fun _ => rfl)).mono ?_
  rintro o w' ⟨v, rfl, ho, hb⟩
  obtain ⟨t, ht, hn⟩ := exB
  have ho : w'.ownsRow w.heap.size 5 1 v (sixB exH [] []).length ((sixB exH [] []).map (.int .u8)) := ho
  rw [ht, List.length_cons, hn] at ho
  obtain ⟨g, c, rfl, hc⟩ := news_own ho (by omega) (by rw [List.length_cons, hn])
  exact ⟨g, c, rfl, by have := hc 0 (.int .u8 96) rfl; rw [Addr.add_lit] at this; exact this, hb⟩
set_option maxHeartbeats 2000000 in
set_option maxRecDepth 100000 in
theorem awake_any (w : World) : Calls Try.prog 14 #[] w fun o w' => o = .returned (.bool true) ∧ Below w.heap.size w w' := by
  have BY := Lib.hid (ex_any w)
  go_enter Try.func14, Try.ntmps14
  go_wp2_with fail
  refine BY.out.mono ?_
  rintro o w1 ⟨g, c, rfl, hc, hb⟩
  have HB := Lib.hid hb
  clear hb
  go_wp2_with fail
  go_ret
  exact ⟨rfl, HB.out⟩
end Go.Proofs.Ytndekicblbpkjaa.sixR
