/- Layer 8: headers that may not be, the law says so: options. -/
import Derived.Test.YtgikoljnmmnkkaaFourO
namespace Go.Proofs.Ytgikoljnmmnkkaa.fourR
open Go.ChangeShapes Go.WideShapes Go.ChangeAt Go.RowKit
open Go.Proofs.Ytgikoljnmmnkkaa.base Go.Proofs.Ytgikoljnmmnkkaa.sumA Go.Proofs.Ytgikoljnmmnkkaa.sumB Go.Proofs.Ytgikoljnmmnkkaa.octA Go.Proofs.Ytgikoljnmmnkkaa.octB Go.Proofs.Ytgikoljnmmnkkaa.octC Go.Proofs.Ytgikoljnmmnkkaa.octD Go.Proofs.Ytgikoljnmmnkkaa.octE Go.Proofs.Ytgikoljnmmnkkaa.octF Go.Proofs.Ytgikoljnmmnkkaa.octK Go.Proofs.Ytgikoljnmmnkkaa.rdrA Go.Proofs.Ytgikoljnmmnkkaa.udpA Go.Proofs.Ytgikoljnmmnkkaa.tcpC Go.Proofs.Ytgikoljnmmnkkaa.net Go.Proofs.Ytgikoljnmmnkkaa.fourA Go.Proofs.Ytgikoljnmmnkkaa.fourB Go.Proofs.Ytgikoljnmmnkkaa.fourC Go.Proofs.Ytgikoljnmmnkkaa.fourD Go.Proofs.Ytgikoljnmmnkkaa.fourE Go.Proofs.Ytgikoljnmmnkkaa.fourF Go.Proofs.Ytgikoljnmmnkkaa.fourG Go.Proofs.Ytgikoljnmmnkkaa.fourO
set_option linter.unusedVariables false

set_option maxRecDepth 100000 in
set_option maxHeartbeats 8000000 in
theorem lw_n0 (tos id : Int) (df mf : Bool) (fr ttl pr : Int) (sl : Int) (dl : Int) (AO : Option Addr) (no co : Nat) (w : World) (c_tos0 : 0 ≤ tos) (c_tos1 : tos ≤ 255) (c_ttl0 : 0 ≤ ttl) (c_ttl1 : ttl ≤ 255) (c_pr0 : 0 ≤ pr) (c_pr1 : pr ≤ 255) (c_id0 : 0 ≤ id) (c_id1 : id ≤ 65535) (c_fr0 : 0 ≤ fr) (c_fr1 : fr ≤ 8191) (l0 : 0 ≤ sl) (l2 : sl ≤ 4294967295) (l1 : 0 ≤ dl) (l3 : dl ≤ 4294967295) (n0 : no ≤ 40) (hn : ¬ no % 4 = 0) :
    Calls Try.prog 30 #[.agg #[.int .i64 tos, .int .i64 id, .bool df, .bool mf, .int .i64 fr, .int .i64 ttl, .int .i64 pr, .bool false, .int .u64 0, .int .u64 sl, .bool false, .int .u64 0, .int .u64 dl, .slice AO no co]] w fun e w' => e = .returned (.bool false) ∧ Below w.heap.size w w' := by
  have BOX := Lib.hid (Blk.new w 54 #[.int .i64 tos, .int .i64 id, .bool df, .bool mf, .int .i64 fr, .int .i64 ttl, .int .i64 pr, .bool false, .int .u64 0, .int .u64 sl, .bool false, .int .u64 0, .int .u64 dl, .slice AO no co])
  have HB0 := Lib.hid ((Below.refl w.heap.size w).alloc (Nat.le_refl _) (.cells #[.int .i64 tos, .int .i64 id, .bool df, .bool mf, .int .i64 fr, .int .i64 ttl, .int .i64 pr, .bool false, .int .u64 0, .int .u64 sl, .bool false, .int .u64 0, .int .u64 dl, .slice AO no co] 54))
  have q1 : decide ((no : Int) ≤ 40) = true := decide_eq_true (by omega)
  have q3 : (((no : Int) % 4) == 0) = false := eqF (by omega)
  clear n0
  have HA1 := Lib.hid (fun w => addr_yes sl w l0 l2)
  have HA2 := Lib.hid (fun w => addr_yes dl w l1 l3)
  clear hn l0 l1 l2 l3
  go_enter Try.func30, Try.ntmps30
  go_wp2_with fail
  have HBv := HB0
  have BXv := BOX
  refine (HA1.out _).mono ?_
  rintro e w5 ⟨rfl, hb_⟩
  have HBw5 := Lib.hid (bel_call HBv.out hb_)
  have BXw5 := Lib.hid (BXv.out.below hb_ BXv.out.lt)
  clear hb_
  have o10 : w5.cell? ⟨w.heap.size, 10, none⟩ = some (.bool false) := BXw5.out.cell 10
  have o11 : w5.cell? ⟨w.heap.size, 11, none⟩ = some (.int .u64 0) := BXw5.out.cell 11
  have o12 : w5.cell? ⟨w.heap.size, 12, none⟩ = some (.int .u64 dl) := BXw5.out.cell 12
  have o13 : w5.cell? ⟨w.heap.size, 13, none⟩ = some (.slice AO no co) := BXw5.out.cell 13
  go_wp2_with fail
  clear o10 o11 o12 o13
  refine (HA2.out _).mono ?_
  rintro e w6 ⟨rfl, hb_⟩
  have HBw6 := Lib.hid (bel_call HBw5.out hb_)
  have BXw6 := Lib.hid (BXw5.out.below hb_ BXw5.out.lt)
  clear hb_
  have o13 : w6.cell? ⟨w.heap.size, 13, none⟩ = some (.slice AO no co) := BXw6.out.cell 13
  go_wp2_with fail
  go_ret
  exact ⟨rfl, HBw6.out⟩
set_option maxRecDepth 100000 in
set_option maxHeartbeats 8000000 in
theorem lw_n1 (tos id : Int) (df mf : Bool) (fr ttl pr : Int) (sl : Int) (dl : Int) (AO : Option Addr) (no co : Nat) (w : World) (c_tos0 : 0 ≤ tos) (c_tos1 : tos ≤ 255) (c_ttl0 : 0 ≤ ttl) (c_ttl1 : ttl ≤ 255) (c_pr0 : 0 ≤ pr) (c_pr1 : pr ≤ 255) (c_id0 : 0 ≤ id) (c_id1 : id ≤ 65535) (c_fr0 : 0 ≤ fr) (c_fr1 : fr ≤ 8191) (l0 : 0 ≤ sl) (l2 : sl ≤ 4294967295) (l1 : 0 ≤ dl) (l3 : dl ≤ 4294967295) (hn : ¬ no ≤ 40) :
    Calls Try.prog 30 #[.agg #[.int .i64 tos, .int .i64 id, .bool df, .bool mf, .int .i64 fr, .int .i64 ttl, .int .i64 pr, .bool false, .int .u64 0, .int .u64 sl, .bool false, .int .u64 0, .int .u64 dl, .slice AO no co]] w fun e w' => e = .returned (.bool false) ∧ Below w.heap.size w w' := by
  have BOX := Lib.hid (Blk.new w 54 #[.int .i64 tos, .int .i64 id, .bool df, .bool mf, .int .i64 fr, .int .i64 ttl, .int .i64 pr, .bool false, .int .u64 0, .int .u64 sl, .bool false, .int .u64 0, .int .u64 dl, .slice AO no co])
  have HB0 := Lib.hid ((Below.refl w.heap.size w).alloc (Nat.le_refl _) (.cells #[.int .i64 tos, .int .i64 id, .bool df, .bool mf, .int .i64 fr, .int .i64 ttl, .int .i64 pr, .bool false, .int .u64 0, .int .u64 sl, .bool false, .int .u64 0, .int .u64 dl, .slice AO no co] 54))
  have q1 : decide ((no : Int) ≤ 40) = false := decide_eq_false (by omega)
  have HA1 := Lib.hid (fun w => addr_yes sl w l0 l2)
  have HA2 := Lib.hid (fun w => addr_yes dl w l1 l3)
  clear hn l0 l1 l2 l3
  go_enter Try.func30, Try.ntmps30
  go_wp2_with fail
  have HBv := HB0
  have BXv := BOX
  refine (HA1.out _).mono ?_
  rintro e w5 ⟨rfl, hb_⟩
  have HBw5 := Lib.hid (bel_call HBv.out hb_)
  have BXw5 := Lib.hid (BXv.out.below hb_ BXv.out.lt)
  clear hb_
  have o10 : w5.cell? ⟨w.heap.size, 10, none⟩ = some (.bool false) := BXw5.out.cell 10
  have o11 : w5.cell? ⟨w.heap.size, 11, none⟩ = some (.int .u64 0) := BXw5.out.cell 11
  have o12 : w5.cell? ⟨w.heap.size, 12, none⟩ = some (.int .u64 dl) := BXw5.out.cell 12
  have o13 : w5.cell? ⟨w.heap.size, 13, none⟩ = some (.slice AO no co) := BXw5.out.cell 13
  go_wp2_with fail
  clear o10 o11 o12 o13
  refine (HA2.out _).mono ?_
  rintro e w6 ⟨rfl, hb_⟩
  have HBw6 := Lib.hid (bel_call HBw5.out hb_)
  have BXw6 := Lib.hid (BXw5.out.below hb_ BXw5.out.lt)
  clear hb_
  have o13 : w6.cell? ⟨w.heap.size, 13, none⟩ = some (.slice AO no co) := BXw6.out.cell 13
  go_wp2_with fail
  go_ret
  exact ⟨rfl, HBw6.out⟩
end Go.Proofs.Ytgikoljnmmnkkaa.fourR
