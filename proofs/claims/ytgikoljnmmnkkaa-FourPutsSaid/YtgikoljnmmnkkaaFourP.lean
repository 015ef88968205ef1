/- Layer 8: the law on headers that may not be. -/
import Derived.Test.YtgikoljnmmnkkaaFourJ
import Derived.Test.YtgikoljnmmnkkaaFourM
import Derived.Test.YtgikoljnmmnkkaaFourQ
import Derived.Test.YtgikoljnmmnkkaaFourN
import Derived.Test.YtgikoljnmmnkkaaFourR
namespace Go.Proofs.Ytgikoljnmmnkkaa.fourP
open Go.ChangeShapes Go.WideShapes Go.ChangeAt Go.RowKit
open Go.Proofs.Ytgikoljnmmnkkaa.base Go.Proofs.Ytgikoljnmmnkkaa.sumA Go.Proofs.Ytgikoljnmmnkkaa.sumB Go.Proofs.Ytgikoljnmmnkkaa.octA Go.Proofs.Ytgikoljnmmnkkaa.octB Go.Proofs.Ytgikoljnmmnkkaa.octC Go.Proofs.Ytgikoljnmmnkkaa.octD Go.Proofs.Ytgikoljnmmnkkaa.octE Go.Proofs.Ytgikoljnmmnkkaa.octF Go.Proofs.Ytgikoljnmmnkkaa.octK Go.Proofs.Ytgikoljnmmnkkaa.rdrA Go.Proofs.Ytgikoljnmmnkkaa.udpA Go.Proofs.Ytgikoljnmmnkkaa.tcpC Go.Proofs.Ytgikoljnmmnkkaa.net Go.Proofs.Ytgikoljnmmnkkaa.fourA Go.Proofs.Ytgikoljnmmnkkaa.fourB Go.Proofs.Ytgikoljnmmnkkaa.fourC Go.Proofs.Ytgikoljnmmnkkaa.fourD Go.Proofs.Ytgikoljnmmnkkaa.fourE Go.Proofs.Ytgikoljnmmnkkaa.fourF Go.Proofs.Ytgikoljnmmnkkaa.fourG Go.Proofs.Ytgikoljnmmnkkaa.fourO Go.Proofs.Ytgikoljnmmnkkaa.fourJ Go.Proofs.Ytgikoljnmmnkkaa.fourM Go.Proofs.Ytgikoljnmmnkkaa.fourQ Go.Proofs.Ytgikoljnmmnkkaa.fourN Go.Proofs.Ytgikoljnmmnkkaa.fourR
set_option linter.unusedVariables false

theorem lawright_no (tos id : Int) (df mf : Bool) (fr ttl pr : Int) (s6 : Bool) (sh sl : Int) (d6 : Bool) (dh dl : Int) (AO : Option Addr) (no co : Nat) (w : World) (l0 : 0 ≤ sl) (l1 : 0 ≤ dl) (h : ¬ okG tos id fr ttl pr s6 sh sl d6 dh dl no) :
    Calls Try.prog 30 #[.agg #[.int .i64 tos, .int .i64 id, .bool df, .bool mf, .int .i64 fr, .int .i64 ttl, .int .i64 pr, .bool s6, .int .u64 sh, .int .u64 sl, .bool d6, .int .u64 dh, .int .u64 dl, .slice AO no co]] w fun e w' => e = .returned (.bool false) ∧ Below w.heap.size w w' := by
  by_cases c_tos0 : 0 ≤ tos
  rotate_left
  · exact lw_tos0 tos id df mf fr ttl pr s6 sh sl d6 dh dl AO no co w  c_tos0
  by_cases c_tos1 : tos ≤ 255
  rotate_left
  · exact lw_tos1 tos id df mf fr ttl pr s6 sh sl d6 dh dl AO no co w c_tos0 c_tos1
  by_cases c_ttl0 : 0 ≤ ttl
  rotate_left
  · exact lw_ttl0 tos id df mf fr ttl pr s6 sh sl d6 dh dl AO no co w c_tos0 c_tos1 c_ttl0
  by_cases c_ttl1 : ttl ≤ 255
  rotate_left
  · exact lw_ttl1 tos id df mf fr ttl pr s6 sh sl d6 dh dl AO no co w c_tos0 c_tos1 c_ttl0 c_ttl1
  by_cases c_pr0 : 0 ≤ pr
  rotate_left
  · exact lw_pr0 tos id df mf fr ttl pr s6 sh sl d6 dh dl AO no co w c_tos0 c_tos1 c_ttl0 c_ttl1 c_pr0
  by_cases c_pr1 : pr ≤ 255
  rotate_left
  · exact lw_pr1 tos id df mf fr ttl pr s6 sh sl d6 dh dl AO no co w c_tos0 c_tos1 c_ttl0 c_ttl1 c_pr0 c_pr1
  by_cases c_id0 : 0 ≤ id
  rotate_left
  · exact lw_id0 tos id df mf fr ttl pr s6 sh sl d6 dh dl AO no co w c_tos0 c_tos1 c_ttl0 c_ttl1 c_pr0 c_pr1 c_id0
  by_cases c_id1 : id ≤ 65535
  rotate_left
  · exact lw_id1 tos id df mf fr ttl pr s6 sh sl d6 dh dl AO no co w c_tos0 c_tos1 c_ttl0 c_ttl1 c_pr0 c_pr1 c_id0 c_id1
  by_cases c_fr0 : 0 ≤ fr
  rotate_left
  · exact lw_fr0 tos id df mf fr ttl pr s6 sh sl d6 dh dl AO no co w c_tos0 c_tos1 c_ttl0 c_ttl1 c_pr0 c_pr1 c_id0 c_id1 c_fr0
  by_cases c_fr1 : fr ≤ 8191
  rotate_left
  · exact lw_fr1 tos id df mf fr ttl pr s6 sh sl d6 dh dl AO no co w c_tos0 c_tos1 c_ttl0 c_ttl1 c_pr0 c_pr1 c_id0 c_id1 c_fr0 c_fr1
  cases s6
  rotate_left
  · exact lw_s6 tos id df mf fr ttl pr sh sl d6 dh dl AO no co w c_tos0 c_tos1 c_ttl0 c_ttl1 c_pr0 c_pr1 c_id0 c_id1 c_fr0 c_fr1
  cases d6
  rotate_left
  · exact lw_d6 tos id df mf fr ttl pr sh sl dh dl AO no co w c_tos0 c_tos1 c_ttl0 c_ttl1 c_pr0 c_pr1 c_id0 c_id1 c_fr0 c_fr1
  by_cases c_s : okA false sh sl
  rotate_left
  · exact lw_s tos id df mf fr ttl pr sh sl dh dl AO no co w c_tos0 c_tos1 c_ttl0 c_ttl1 c_pr0 c_pr1 c_id0 c_id1 c_fr0 c_fr1 c_s
  by_cases c_d : okA false dh dl
  rotate_left
  · obtain ⟨_, rfl, s3⟩ := c_s
    exact lw_d tos id df mf fr ttl pr sl dh dl AO no co w c_tos0 c_tos1 c_ttl0 c_ttl1 c_pr0 c_pr1 c_id0 c_id1 c_fr0 c_fr1 l0 s3 c_d
  have hno : ¬ (no ≤ 40 ∧ no % 4 = 0) := fun hh => h ⟨⟨c_tos0, c_tos1⟩, ⟨c_ttl0, c_ttl1⟩, ⟨c_pr0, c_pr1⟩, ⟨c_id0, c_id1⟩, ⟨c_fr0, c_fr1⟩, c_s, c_d, hh.1, hh.2⟩
  obtain ⟨_, rfl, s3⟩ := c_s
  obtain ⟨_, rfl, d3⟩ := c_d
  by_cases n0 : no ≤ 40
  · exact lw_n0 tos id df mf fr ttl pr sl dl AO no co w c_tos0 c_tos1 c_ttl0 c_ttl1 c_pr0 c_pr1 c_id0 c_id1 c_fr0 c_fr1 l0 s3 l1 d3 n0 (fun hh => hno ⟨n0, hh⟩)
  · exact lw_n1 tos id df mf fr ttl pr sl dl AO no co w c_tos0 c_tos1 c_ttl0 c_ttl1 c_pr0 c_pr1 c_id0 c_id1 c_fr0 c_fr1 l0 s3 l1 d3 n0
set_option maxRecDepth 100000 in
set_option maxHeartbeats 4000000 in
theorem law_wrong (v1 v2 : Value) (tos id : Int) (df mf : Bool) (fr ttl pr : Int) (s6 : Bool) (sh sl : Int) (d6 : Bool) (dh dl : Int) (AO : Option Addr) (no co : Nat) (A1 : Option Addr) (n1 c1 : Nat) (w : World) (l0 : 0 ≤ sl) (l1 : 0 ≤ dl) (h : ¬ okG tos id fr ttl pr s6 sh sl d6 dh dl no)
    (C1 : Hid (∀ w : World, Calls Try.prog 24 #[v1] w fun e w' => e = .returned (.slice A1 n1 c1) ∧ w = w')) :
    Calls Try.prog 7 #[.agg #[.int .i64 tos, .int .i64 id, .bool df, .bool mf, .int .i64 fr, .int .i64 ttl, .int .i64 pr, .bool s6, .int .u64 sh, .int .u64 sl, .bool d6, .int .u64 dh, .int .u64 dl, .slice AO no co], v1, v2] w fun e w' => e = .returned (.bool true) ∧ Below w.heap.size w w' := by
  have HBY := Lib.hid (fun w => bytes_wrong tos id df mf fr ttl pr s6 sh sl d6 dh dl AO no co A1 n1 c1 w l0 l1 h)
  have HRT := Lib.hid (fun w => right_no tos id df mf fr ttl pr s6 sh sl d6 dh dl AO no co w l0 l1 h)
  have HLR := Lib.hid (fun w => lawright_no tos id df mf fr ttl pr s6 sh sl d6 dh dl AO no co w l0 l1 h)
  have HAW := Lib.hid awake_any
  have BOX := Lib.hid (Blk.new w 54 #[.int .i64 tos, .int .i64 id, .bool df, .bool mf, .int .i64 fr, .int .i64 ttl, .int .i64 pr, .bool s6, .int .u64 sh, .int .u64 sl, .bool d6, .int .u64 dh, .int .u64 dl, .slice AO no co])
  have HB0 := Lib.hid ((Below.refl w.heap.size w).alloc (Nat.le_refl _) (.cells #[.int .i64 tos, .int .i64 id, .bool df, .bool mf, .int .i64 fr, .int .i64 ttl, .int .i64 pr, .bool s6, .int .u64 sh, .int .u64 sl, .bool d6, .int .u64 dh, .int .u64 dl, .slice AO no co] 54))
  clear h
  go_enter Try.func7, Try.ntmps7
  go_wp2_with fail
  refine (C1.out _).mono ?_
  rintro e w' ⟨rfl, rfl⟩
  go_wp2_with fail
  refine (HBY.out _).mono ?_
  rintro e w1 ⟨rfl, hb1⟩
  have HB1 := Lib.hid (bel_call HB0.out hb1)
  have BX1 := Lib.hid (BOX.out.below hb1 BOX.out.lt)
  clear hb1
  go_wp2_with fail
  have HKD := Lib.hid (show w1.drew.cell? ⟨w.heap.size, 0, none⟩ = some (.int .i64 tos) ∧ w1.drew.cell? ⟨w.heap.size, 1, none⟩ = some (.int .i64 id) ∧ w1.drew.cell? ⟨w.heap.size, 2, none⟩ = some (.bool df) ∧ w1.drew.cell? ⟨w.heap.size, 3, none⟩ = some (.bool mf) ∧ w1.drew.cell? ⟨w.heap.size, 4, none⟩ = some (.int .i64 fr) ∧ w1.drew.cell? ⟨w.heap.size, 5, none⟩ = some (.int .i64 ttl) ∧ w1.drew.cell? ⟨w.heap.size, 6, none⟩ = some (.int .i64 pr) ∧ w1.drew.cell? ⟨w.heap.size, 7, none⟩ = some (.bool s6) ∧ w1.drew.cell? ⟨w.heap.size, 8, none⟩ = some (.int .u64 sh) ∧ w1.drew.cell? ⟨w.heap.size, 9, none⟩ = some (.int .u64 sl) ∧ w1.drew.cell? ⟨w.heap.size, 10, none⟩ = some (.bool d6) ∧ w1.drew.cell? ⟨w.heap.size, 11, none⟩ = some (.int .u64 dh) ∧ w1.drew.cell? ⟨w.heap.size, 12, none⟩ = some (.int .u64 dl) ∧ w1.drew.cell? ⟨w.heap.size, 13, none⟩ = some (.slice AO no co) from ⟨BX1.out.cell 0, BX1.out.cell 1, BX1.out.cell 2, BX1.out.cell 3, BX1.out.cell 4, BX1.out.cell 5, BX1.out.cell 6, BX1.out.cell 7, BX1.out.cell 8, BX1.out.cell 9, BX1.out.cell 10, BX1.out.cell 11, BX1.out.cell 12, BX1.out.cell 13⟩)
  go_region_held3 (fun w' => w'.cell? ⟨w.heap.size, 0, none⟩ = some (.int .i64 tos) ∧ w'.cell? ⟨w.heap.size, 1, none⟩ = some (.int .i64 id) ∧ w'.cell? ⟨w.heap.size, 2, none⟩ = some (.bool df) ∧ w'.cell? ⟨w.heap.size, 3, none⟩ = some (.bool mf) ∧ w'.cell? ⟨w.heap.size, 4, none⟩ = some (.int .i64 fr) ∧ w'.cell? ⟨w.heap.size, 5, none⟩ = some (.int .i64 ttl) ∧ w'.cell? ⟨w.heap.size, 6, none⟩ = some (.int .i64 pr) ∧ w'.cell? ⟨w.heap.size, 7, none⟩ = some (.bool s6) ∧ w'.cell? ⟨w.heap.size, 8, none⟩ = some (.int .u64 sh) ∧ w'.cell? ⟨w.heap.size, 9, none⟩ = some (.int .u64 sl) ∧ w'.cell? ⟨w.heap.size, 10, none⟩ = some (.bool d6) ∧ w'.cell? ⟨w.heap.size, 11, none⟩ = some (.int .u64 dh) ∧ w'.cell? ⟨w.heap.size, 12, none⟩ = some (.int .u64 dl) ∧ w'.cell? ⟨w.heap.size, 13, none⟩ = some (.slice AO no co)) (first | with_reducible assumption | with_reducible exact HK3.out | with_reducible exact HK2.out | with_reducible exact HKD.out) (first
    | (go_at_call 32; refine (HRT.out _).mono ?_; rintro e w2 ⟨rfl, hb2⟩; have HB2 := Lib.hid (bel_call HB1.out.drew hb2); have BX2 := Lib.hid (BX1.out.drew.below hb2 BX1.out.drew.lt); have HK2 := Lib.hid (show w2.cell? ⟨w.heap.size, 0, none⟩ = some (.int .i64 tos) ∧ w2.cell? ⟨w.heap.size, 1, none⟩ = some (.int .i64 id) ∧ w2.cell? ⟨w.heap.size, 2, none⟩ = some (.bool df) ∧ w2.cell? ⟨w.heap.size, 3, none⟩ = some (.bool mf) ∧ w2.cell? ⟨w.heap.size, 4, none⟩ = some (.int .i64 fr) ∧ w2.cell? ⟨w.heap.size, 5, none⟩ = some (.int .i64 ttl) ∧ w2.cell? ⟨w.heap.size, 6, none⟩ = some (.int .i64 pr) ∧ w2.cell? ⟨w.heap.size, 7, none⟩ = some (.bool s6) ∧ w2.cell? ⟨w.heap.size, 8, none⟩ = some (.int .u64 sh) ∧ w2.cell? ⟨w.heap.size, 9, none⟩ = some (.int .u64 sl) ∧ w2.cell? ⟨w.heap.size, 10, none⟩ = some (.bool d6) ∧ w2.cell? ⟨w.heap.size, 11, none⟩ = some (.int .u64 dh) ∧ w2.cell? ⟨w.heap.size, 12, none⟩ = some (.int .u64 dl) ∧ w2.cell? ⟨w.heap.size, 13, none⟩ = some (.slice AO no co) from ⟨BX2.out.cell 0, BX2.out.cell 1, BX2.out.cell 2, BX2.out.cell 3, BX2.out.cell 4, BX2.out.cell 5, BX2.out.cell 6, BX2.out.cell 7, BX2.out.cell 8, BX2.out.cell 9, BX2.out.cell 10, BX2.out.cell 11, BX2.out.cell 12, BX2.out.cell 13⟩); clear hb2)
    | (go_at_call 30; refine (HLR.out _).mono ?_; rintro e w3 ⟨rfl, hb3⟩; have HB3 := Lib.hid (bel_call HB2.out hb3); have BX3 := Lib.hid (BX2.out.below hb3 BX2.out.lt); have HK3 := Lib.hid (show w3.cell? ⟨w.heap.size, 0, none⟩ = some (.int .i64 tos) ∧ w3.cell? ⟨w.heap.size, 1, none⟩ = some (.int .i64 id) ∧ w3.cell? ⟨w.heap.size, 2, none⟩ = some (.bool df) ∧ w3.cell? ⟨w.heap.size, 3, none⟩ = some (.bool mf) ∧ w3.cell? ⟨w.heap.size, 4, none⟩ = some (.int .i64 fr) ∧ w3.cell? ⟨w.heap.size, 5, none⟩ = some (.int .i64 ttl) ∧ w3.cell? ⟨w.heap.size, 6, none⟩ = some (.int .i64 pr) ∧ w3.cell? ⟨w.heap.size, 7, none⟩ = some (.bool s6) ∧ w3.cell? ⟨w.heap.size, 8, none⟩ = some (.int .u64 sh) ∧ w3.cell? ⟨w.heap.size, 9, none⟩ = some (.int .u64 sl) ∧ w3.cell? ⟨w.heap.size, 10, none⟩ = some (.bool d6) ∧ w3.cell? ⟨w.heap.size, 11, none⟩ = some (.int .u64 dh) ∧ w3.cell? ⟨w.heap.size, 12, none⟩ = some (.int .u64 dl) ∧ w3.cell? ⟨w.heap.size, 13, none⟩ = some (.slice AO no co) from ⟨BX3.out.cell 0, BX3.out.cell 1, BX3.out.cell 2, BX3.out.cell 3, BX3.out.cell 4, BX3.out.cell 5, BX3.out.cell 6, BX3.out.cell 7, BX3.out.cell 8, BX3.out.cell 9, BX3.out.cell 10, BX3.out.cell 11, BX3.out.cell 12, BX3.out.cell 13⟩); clear hb3))
  have o0 : w3.cell? ⟨w.heap.size, 0, none⟩ = some (.int .i64 tos) := BX3.out.cell 0
  have o1 : w3.cell? ⟨w.heap.size, 1, none⟩ = some (.int .i64 id) := BX3.out.cell 1
  have o2 : w3.cell? ⟨w.heap.size, 2, none⟩ = some (.bool df) := BX3.out.cell 2
  have o3 : w3.cell? ⟨w.heap.size, 3, none⟩ = some (.bool mf) := BX3.out.cell 3
  have o4 : w3.cell? ⟨w.heap.size, 4, none⟩ = some (.int .i64 fr) := BX3.out.cell 4
  have o5 : w3.cell? ⟨w.heap.size, 5, none⟩ = some (.int .i64 ttl) := BX3.out.cell 5
  have o6 : w3.cell? ⟨w.heap.size, 6, none⟩ = some (.int .i64 pr) := BX3.out.cell 6
  have o7 : w3.cell? ⟨w.heap.size, 7, none⟩ = some (.bool s6) := BX3.out.cell 7
  have o8 : w3.cell? ⟨w.heap.size, 8, none⟩ = some (.int .u64 sh) := BX3.out.cell 8
  have o9 : w3.cell? ⟨w.heap.size, 9, none⟩ = some (.int .u64 sl) := BX3.out.cell 9
  have o10 : w3.cell? ⟨w.heap.size, 10, none⟩ = some (.bool d6) := BX3.out.cell 10
  have o11 : w3.cell? ⟨w.heap.size, 11, none⟩ = some (.int .u64 dh) := BX3.out.cell 11
  have o12 : w3.cell? ⟨w.heap.size, 12, none⟩ = some (.int .u64 dl) := BX3.out.cell 12
  have o13 : w3.cell? ⟨w.heap.size, 13, none⟩ = some (.slice AO no co) := BX3.out.cell 13
  go_wp2_with fail
  refine (HLR.out _).mono ?_
  rintro e w4 ⟨rfl, hb4⟩
  have HB4 := Lib.hid (bel_call HB3.out hb4)
  clear hb4
  go_wp2_with fail
  refine (HAW.out _).mono ?_
  rintro e w5 ⟨rfl, hb5⟩
  go_wp2_with fail
  go_ret
  exact ⟨rfl, bel_call HB4.out hb5⟩
end Go.Proofs.Ytgikoljnmmnkkaa.fourP
