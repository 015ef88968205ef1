/- Layer 36: a file as bytes, where it cannot be. -/
import Derived.Test.YtmchedjeohhpcaaPcapG
namespace Go.Proofs.Ytmchedjeohhpcaa.pcapH
open Go.ChangeShapes Go.WideShapes Go.ChangeAt Go.RowKit
open Go.Proofs.Ytmchedjeohhpcaa.base Go.Proofs.Ytmchedjeohhpcaa.pcapA Go.Proofs.Ytmchedjeohhpcaa.pcapB Go.Proofs.Ytmchedjeohhpcaa.pcapC Go.Proofs.Ytmchedjeohhpcaa.pcapD Go.Proofs.Ytmchedjeohhpcaa.pcapE Go.Proofs.Ytmchedjeohhpcaa.pcapF Go.Proofs.Ytmchedjeohhpcaa.pcapG
set_option linter.unusedVariables false

set_option maxHeartbeats 4000000 in
theorem bytes_no (big : Bool) (sn link : Nat) (A : Option Addr) (c : Nat) (l : List Rc) (w : World) (h1 : sn < 4294967296) (hr : RdR w A l) (hw : ∀ e ∈ l, e.ok) (hl : l.length ≤ 1000000000) (hc1 : l.length ≤ c) (hc2 : c ≤ 9223372036854775807) (hno : rightB sn l = false) :
    Calls Try.prog 7 #[.agg #[.bool big, .int .u32 (sn : Int), .int .u32 (link : Int), .slice A l.length c]] w fun o w' => o = .returned (.tuple #[.slice none 0 0, .int .i64 1]) ∧ Below w.heap.size w w' := by
  have BA := Lib.hid (show Below w.heap.size w (w.alloc (.cells #[.bool big, .int .u32 (sn : Int), .int .u32 (link : Int), .slice A l.length c] 25)) from (Below.refl w.heap.size w).alloc (Nat.le_refl _) _)
  have HC := Lib.hid (right_any big sn link A c l (w.alloc (.cells #[.bool big, .int .u32 (sn : Int), .int .u32 (link : Int), .slice A l.length c] 25)) h1 (hr.below BA.out) hw hl hc1 hc2)
  rw [hno] at HC
  obtain ⟨n, hn⟩ : ∃ n, n = l.length := ⟨_, rfl⟩
  rw [← hn] at HC BA ⊢
  clear hr hw hn hno
  go_enter Try.func7, Try.ntmps7
  go_wp2_with fail
  refine HC.out.mono ?_
  rintro o w1 ⟨rfl, hb⟩
  have HB := Lib.hid (BA.out.trans (hb.mono BA.out.size))
  clear hb
  go_wp2_with fail
  go_ret2
  exact ⟨rfl, HB.out⟩
end Go.Proofs.Ytmchedjeohhpcaa.pcapH
