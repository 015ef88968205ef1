/- Layer 8: the law on headers that may be. -/
import Derived.Test.YtgikoljnmmnkkaaFourH
import Derived.Deep.DeepCutAuto
import Derived.Deep.RegionWith
namespace Go.Proofs.Ytgikoljnmmnkkaa.fourI
open Go.ChangeShapes Go.WideShapes Go.ChangeAt Go.RowKit
open Go.Proofs.Ytgikoljnmmnkkaa.base Go.Proofs.Ytgikoljnmmnkkaa.sumA Go.Proofs.Ytgikoljnmmnkkaa.sumB Go.Proofs.Ytgikoljnmmnkkaa.octA Go.Proofs.Ytgikoljnmmnkkaa.octB Go.Proofs.Ytgikoljnmmnkkaa.octC Go.Proofs.Ytgikoljnmmnkkaa.octD Go.Proofs.Ytgikoljnmmnkkaa.octE Go.Proofs.Ytgikoljnmmnkkaa.octF Go.Proofs.Ytgikoljnmmnkkaa.octK Go.Proofs.Ytgikoljnmmnkkaa.rdrA Go.Proofs.Ytgikoljnmmnkkaa.udpA Go.Proofs.Ytgikoljnmmnkkaa.tcpC Go.Proofs.Ytgikoljnmmnkkaa.net Go.Proofs.Ytgikoljnmmnkkaa.fourA Go.Proofs.Ytgikoljnmmnkkaa.fourB Go.Proofs.Ytgikoljnmmnkkaa.fourC Go.Proofs.Ytgikoljnmmnkkaa.fourD Go.Proofs.Ytgikoljnmmnkkaa.fourE Go.Proofs.Ytgikoljnmmnkkaa.fourF Go.Proofs.Ytgikoljnmmnkkaa.fourG Go.Proofs.Ytgikoljnmmnkkaa.fourH
set_option linter.unusedVariables false

set_option maxRecDepth 100000 in
set_option maxHeartbeats 8000000 in
theorem good (v1 v2 : Value) (tos id : Int) (df mf : Bool) (fr ttl pr sl dl : Int) (AO : Option Addr) (no co : Nat) (os : List Int) (A1 A3 : Option Addr) (n1 n3 c1 c3 : Nat) (l1 l3 : List Int) (w : World) (hok : okF tos id fr ttl pr sl dl no)
    (hol : os.length = no) (hor : Row w w.heap.size AO (os.map (.int .u8))) (hoz : AO = none → co = 0) (hox : ∀ x ∈ os, 0 ≤ x ∧ x ≤ 255)
    (h1 : l1.length = n1) (k1 : n1 ≤ 300) (z1 : A1 = none → c1 = 0) (r1 : Row w w.heap.size A1 (l1.map (.int .u8))) (b1 : ∀ x ∈ l1, 0 ≤ x ∧ x ≤ 255)
    (h3 : l3.length = n3) (k3 : n3 ≤ 300) (z3 : A3 = none → c3 = 0) (r3 : Row w w.heap.size A3 (l3.map (.int .u8))) (b3 : ∀ x ∈ l3, 0 ≤ x ∧ x ≤ 255)
    (C1 : Hid (∀ w : World, Calls Try.prog 24 #[v1] w fun e w' => e = .returned (.slice A1 n1 c1) ∧ w = w'))
    (C2 : Hid (∀ w : World, Calls Try.prog 24 #[v2] w fun e w' => e = .returned (.slice A3 n3 c3) ∧ w = w')) :
    Calls Try.prog 7 #[.agg #[.int .i64 tos, .int .i64 id, .bool df, .bool mf, .int .i64 fr, .int .i64 ttl, .int .i64 pr, .bool false, .int .u64 0, .int .u64 sl, .bool false, .int .u64 0, .int .u64 dl, .slice AO no co], v1, v2] w fun e w' => e = .returned (.bool true) ∧ Below w.heap.size w w' := by
  have hok' := hok
  obtain ⟨g1, g2, g3, g4, g5, g6, g7, g8, g9⟩ := hok'
  have HSZ := Lib.hid (show (w.alloc (.cells #[.int .i64 tos, .int .i64 id, .bool df, .bool mf, .int .i64 fr, .int .i64 ttl, .int .i64 pr, .bool false, .int .u64 0, .int .u64 sl, .bool false, .int .u64 0, .int .u64 dl, .slice AO no co] 54)).heap.size = w.heap.size + 1 by simp)
  have BOX := Lib.hid (Blk.new w 54 #[.int .i64 tos, .int .i64 id, .bool df, .bool mf, .int .i64 fr, .int .i64 ttl, .int .i64 pr, .bool false, .int .u64 0, .int .u64 sl, .bool false, .int .u64 0, .int .u64 dl, .slice AO no co])
  have HB0 := Lib.hid (show Below w.heap.size w (w.alloc (.cells #[.int .i64 tos, .int .i64 id, .bool df, .bool mf, .int .i64 fr, .int .i64 ttl, .int .i64 pr, .bool false, .int .u64 0, .int .u64 sl, .bool false, .int .u64 0, .int .u64 dl, .slice AO no co] 54)) from (Below.refl _ _).alloc (Nat.le_refl _) _)
  obtain ⟨ck, hck⟩ : ∃ ck, 65535 - fo (wsum (hk tos id (flz df mf fr) ttl pr sl dl 0 (20 + (no : Int) + (n1 : Int)) os)) = ck := ⟨_, rfl⟩
  have hin0 := hk_in tos id (flz df mf fr) ttl pr sl dl 0 (20 + (no : Int) + (n1 : Int)) os g1 g2 (flz_in df mf fr g3.1 g3.2) g4 g5 g6 g7 (by omega) (by omega) (by omega) hox
  have fbd := fo_bd _ (wsum_bd _ hin0).1
  have HXL := Lib.hid (show (hk tos id (flz df mf fr) ttl pr sl dl ck (20 + (no : Int) + (n1 : Int)) os ++ l1).length = 20 + no + n1 by rw [List.length_append, hk_len, hol, h1])
  have HBY0 := bytes_any tos id df mf fr ttl pr sl dl AO no co os A1 n1 c1 l1 (w.alloc (.cells #[.int .i64 tos, .int .i64 id, .bool df, .bool mf, .int .i64 fr, .int .i64 ttl, .int .i64 pr, .bool false, .int .u64 0, .int .u64 sl, .bool false, .int .u64 0, .int .u64 dl, .slice AO no co] 54)) hok hol ((hor.below HB0.out).more HB0.out.size) hoz hox h1 (by omega) ((r1.below HB0.out).more HB0.out.size) z1 ck hck
  unfold BPost at HBY0
  rw [HXL.out] at HBY0
  have HBY := Lib.hid HBY0
  have HRT := Lib.hid (fun w => right_yes tos id df mf fr ttl pr sl dl AO no co w hok)
  have HLR := Lib.hid (fun w => lawright_yes tos id df mf fr ttl pr sl dl AO no co w hok)
  have HLN := Lib.hid (fun w => len_any tos id df mf fr ttl pr sl dl AO no co w (by omega))
  have HLB := Lib.hid (fun (W : World) hr1 hr2 => lawbytes_any tos id df mf fr ttl pr sl dl AO no co os A1 n1 c1 l1 W hok hol hr1 hoz hox h1 (by omega) hr2 z1 ck hck)
  rw [← h1] at hck
  have HPA := Lib.hid (fun (g c : Nat) (W : World) hnc hc hg hs => back_parse g c (20 + no + n1 + n3) tos id df mf fr ttl pr sl dl no os l1 l3 W hok hol hox (by omega) b1 (by omega) b3 ck hck (by rw [h1, h3]) hnc hc hg hs)
  have HQA := Lib.hid (fun (g c : Nat) (W : World) hnc hc hg hs => back_quote g c (20 + no + n1) tos id df mf fr ttl pr sl dl no os l1 W hok hol hox (by omega) b1 ck (by rw [h1] at hck; omega) (by rw [h1] at hck; omega) (by rw [h1]) hnc hc hg hs)
  rw [h1] at HPA HQA
  have HSA := Lib.hid (fun (AP : Option Addr) (cp : Nat) (W : World) ha hb => same_one tos id df mf fr ttl pr sl dl AP no cp AO co os W hol ha hb)
  have HAW := Lib.hid awake_any
  have R1 := Lib.hid r1
  have RO := Lib.hid hor
  have R3 := Lib.hid r3
  have L1 := Lib.hid h1
  have L3 := Lib.hid h3
  have Z3 := Lib.hid z3
  obtain ⟨i0, hi0, hz0, hz1, hz2⟩ := info_parts info_u8
  have HI0 := Lib.hid hi0
  have HZ0 := Lib.hid hz0
  have HZ1 := Lib.hid hz1
  have HZ2 := Lib.hid hz2
  have ONE := Lib.hid (show ∀ l : List Int, ∀ u ∈ l.map (Value.int .u8), u.oneCell' = true from by
    intro l u hu
    rw [List.mem_map] at hu
    obtain ⟨x, _, rfl⟩ := hu
    rfl)
  clear hi0 hz0 hz1 hz2 HBY0 hin0 fbd hck r1 r3 hor h1 h3 z1 z3 b1 b3 hok hol hox hoz g1 g2 g3 g4 g5 g6 g7 g9
  generalize (hk tos id (flz df mf fr) ttl pr sl dl ck (20 + (no : Int) + (n1 : Int)) os ++ l1) = X at *
  obtain ⟨N, hN⟩ : ∃ N, N = 20 + no + n1 := ⟨_, rfl⟩
  rw [← hN] at HXL HBY HPA HQA
  have N20 : 20 ≤ N := by omega
  have N9 : N ≤ 360 := by omega
  have ME1 := Lib.hid (show 0 + N ≤ maxLen by unfold maxLen; omega)
  have ME2 := Lib.hid (show (0 + N) * 1 ≤ 140737488355328 by omega)
  have ME3 := Lib.hid (show N + n3 ≤ maxLen by unfold maxLen; omega)
  have ME4 := Lib.hid (show (N + n3) * 1 ≤ 140737488355328 by omega)
  have HLB2 := Lib.hid (show ∀ (W : World), Row W W.heap.size AO (os.map (.int .u8)) → Row W W.heap.size A1 (l1.map (.int .u8)) → Calls Try.prog 29 #[.agg #[.int .i64 tos, .int .i64 id, .bool df, .bool mf, .int .i64 fr, .int .i64 ttl, .int .i64 pr, .bool false, .int .u64 0, .int .u64 sl, .bool false, .int .u64 0, .int .u64 dl, .slice AO no co], .slice A1 n1 c1] W (fun e w' => ∃ v, e = .returned v ∧ w'.ownsRow W.heap.size 5 1 v N (X.map (.int .u8)) ∧ Below W.heap.size W w') from fun W ha hb => by
    have h := HLB.out W ha hb
    unfold Go.Proofs.Ytgikoljnmmnkkaa.fourD.LBPost at h
    rw [HXL.out] at h
    exact h)
  clear HLB hN
  go_enter Try.func7, Try.ntmps7
  go_wp2_with fail
  refine (C1.out _).mono ?_
  rintro e w' ⟨rfl, rfl⟩
  have o0 : (w.alloc (.cells #[.int .i64 tos, .int .i64 id, .bool df, .bool mf, .int .i64 fr, .int .i64 ttl, .int .i64 pr, .bool false, .int .u64 0, .int .u64 sl, .bool false, .int .u64 0, .int .u64 dl, .slice AO no co] 54)).cell? ⟨w.heap.size, 0, none⟩ = some (.int .i64 tos) := ((Below.refl (w.heap.size + 1) (w.alloc (.cells #[.int .i64 tos, .int .i64 id, .bool df, .bool mf, .int .i64 fr, .int .i64 ttl, .int .i64 pr, .bool false, .int .u64 0, .int .u64 sl, .bool false, .int .u64 0, .int .u64 dl, .slice AO no co] 54))).cell (p := ⟨w.heap.size, 0, none⟩) (Nat.lt_succ_self _)).trans (BOX.out.cell 0)
  have o1 : (w.alloc (.cells #[.int .i64 tos, .int .i64 id, .bool df, .bool mf, .int .i64 fr, .int .i64 ttl, .int .i64 pr, .bool false, .int .u64 0, .int .u64 sl, .bool false, .int .u64 0, .int .u64 dl, .slice AO no co] 54)).cell? ⟨w.heap.size, 1, none⟩ = some (.int .i64 id) := ((Below.refl (w.heap.size + 1) (w.alloc (.cells #[.int .i64 tos, .int .i64 id, .bool df, .bool mf, .int .i64 fr, .int .i64 ttl, .int .i64 pr, .bool false, .int .u64 0, .int .u64 sl, .bool false, .int .u64 0, .int .u64 dl, .slice AO no co] 54))).cell (p := ⟨w.heap.size, 1, none⟩) (Nat.lt_succ_self _)).trans (BOX.out.cell 1)
  have o2 : (w.alloc (.cells #[.int .i64 tos, .int .i64 id, .bool df, .bool mf, .int .i64 fr, .int .i64 ttl, .int .i64 pr, .bool false, .int .u64 0, .int .u64 sl, .bool false, .int .u64 0, .int .u64 dl, .slice AO no co] 54)).cell? ⟨w.heap.size, 2, none⟩ = some (.bool df) := ((Below.refl (w.heap.size + 1) (w.alloc (.cells #[.int .i64 tos, .int .i64 id, .bool df, .bool mf, .int .i64 fr, .int .i64 ttl, .int .i64 pr, .bool false, .int .u64 0, .int .u64 sl, .bool false, .int .u64 0, .int .u64 dl, .slice AO no co] 54))).cell (p := ⟨w.heap.size, 2, none⟩) (Nat.lt_succ_self _)).trans (BOX.out.cell 2)
  have o3 : (w.alloc (.cells #[.int .i64 tos, .int .i64 id, .bool df, .bool mf, .int .i64 fr, .int .i64 ttl, .int .i64 pr, .bool false, .int .u64 0, .int .u64 sl, .bool false, .int .u64 0, .int .u64 dl, .slice AO no co] 54)).cell? ⟨w.heap.size, 3, none⟩ = some (.bool mf) := ((Below.refl (w.heap.size + 1) (w.alloc (.cells #[.int .i64 tos, .int .i64 id, .bool df, .bool mf, .int .i64 fr, .int .i64 ttl, .int .i64 pr, .bool false, .int .u64 0, .int .u64 sl, .bool false, .int .u64 0, .int .u64 dl, .slice AO no co] 54))).cell (p := ⟨w.heap.size, 3, none⟩) (Nat.lt_succ_self _)).trans (BOX.out.cell 3)
  have o4 : (w.alloc (.cells #[.int .i64 tos, .int .i64 id, .bool df, .bool mf, .int .i64 fr, .int .i64 ttl, .int .i64 pr, .bool false, .int .u64 0, .int .u64 sl, .bool false, .int .u64 0, .int .u64 dl, .slice AO no co] 54)).cell? ⟨w.heap.size, 4, none⟩ = some (.int .i64 fr) := ((Below.refl (w.heap.size + 1) (w.alloc (.cells #[.int .i64 tos, .int .i64 id, .bool df, .bool mf, .int .i64 fr, .int .i64 ttl, .int .i64 pr, .bool false, .int .u64 0, .int .u64 sl, .bool false, .int .u64 0, .int .u64 dl, .slice AO no co] 54))).cell (p := ⟨w.heap.size, 4, none⟩) (Nat.lt_succ_self _)).trans (BOX.out.cell 4)
  have o5 : (w.alloc (.cells #[.int .i64 tos, .int .i64 id, .bool df, .bool mf, .int .i64 fr, .int .i64 ttl, .int .i64 pr, .bool false, .int .u64 0, .int .u64 sl, .bool false, .int .u64 0, .int .u64 dl, .slice AO no co] 54)).cell? ⟨w.heap.size, 5, none⟩ = some (.int .i64 ttl) := ((Below.refl (w.heap.size + 1) (w.alloc (.cells #[.int .i64 tos, .int .i64 id, .bool df, .bool mf, .int .i64 fr, .int .i64 ttl, .int .i64 pr, .bool false, .int .u64 0, .int .u64 sl, .bool false, .int .u64 0, .int .u64 dl, .slice AO no co] 54))).cell (p := ⟨w.heap.size, 5, none⟩) (Nat.lt_succ_self _)).trans (BOX.out.cell 5)
  have o6 : (w.alloc (.cells #[.int .i64 tos, .int .i64 id, .bool df, .bool mf, .int .i64 fr, .int .i64 ttl, .int .i64 pr, .bool false, .int .u64 0, .int .u64 sl, .bool false, .int .u64 0, .int .u64 dl, .slice AO no co] 54)).cell? ⟨w.heap.size, 6, none⟩ = some (.int .i64 pr) := ((Below.refl (w.heap.size + 1) (w.alloc (.cells #[.int .i64 tos, .int .i64 id, .bool df, .bool mf, .int .i64 fr, .int .i64 ttl, .int .i64 pr, .bool false, .int .u64 0, .int .u64 sl, .bool false, .int .u64 0, .int .u64 dl, .slice AO no co] 54))).cell (p := ⟨w.heap.size, 6, none⟩) (Nat.lt_succ_self _)).trans (BOX.out.cell 6)
  have o7 : (w.alloc (.cells #[.int .i64 tos, .int .i64 id, .bool df, .bool mf, .int .i64 fr, .int .i64 ttl, .int .i64 pr, .bool false, .int .u64 0, .int .u64 sl, .bool false, .int .u64 0, .int .u64 dl, .slice AO no co] 54)).cell? ⟨w.heap.size, 7, none⟩ = some (.bool false) := ((Below.refl (w.heap.size + 1) (w.alloc (.cells #[.int .i64 tos, .int .i64 id, .bool df, .bool mf, .int .i64 fr, .int .i64 ttl, .int .i64 pr, .bool false, .int .u64 0, .int .u64 sl, .bool false, .int .u64 0, .int .u64 dl, .slice AO no co] 54))).cell (p := ⟨w.heap.size, 7, none⟩) (Nat.lt_succ_self _)).trans (BOX.out.cell 7)
  have o8 : (w.alloc (.cells #[.int .i64 tos, .int .i64 id, .bool df, .bool mf, .int .i64 fr, .int .i64 ttl, .int .i64 pr, .bool false, .int .u64 0, .int .u64 sl, .bool false, .int .u64 0, .int .u64 dl, .slice AO no co] 54)).cell? ⟨w.heap.size, 8, none⟩ = some (.int .u64 0) := ((Below.refl (w.heap.size + 1) (w.alloc (.cells #[.int .i64 tos, .int .i64 id, .bool df, .bool mf, .int .i64 fr, .int .i64 ttl, .int .i64 pr, .bool false, .int .u64 0, .int .u64 sl, .bool false, .int .u64 0, .int .u64 dl, .slice AO no co] 54))).cell (p := ⟨w.heap.size, 8, none⟩) (Nat.lt_succ_self _)).trans (BOX.out.cell 8)
  have o9 : (w.alloc (.cells #[.int .i64 tos, .int .i64 id, .bool df, .bool mf, .int .i64 fr, .int .i64 ttl, .int .i64 pr, .bool false, .int .u64 0, .int .u64 sl, .bool false, .int .u64 0, .int .u64 dl, .slice AO no co] 54)).cell? ⟨w.heap.size, 9, none⟩ = some (.int .u64 sl) := ((Below.refl (w.heap.size + 1) (w.alloc (.cells #[.int .i64 tos, .int .i64 id, .bool df, .bool mf, .int .i64 fr, .int .i64 ttl, .int .i64 pr, .bool false, .int .u64 0, .int .u64 sl, .bool false, .int .u64 0, .int .u64 dl, .slice AO no co] 54))).cell (p := ⟨w.heap.size, 9, none⟩) (Nat.lt_succ_self _)).trans (BOX.out.cell 9)
  have o10 : (w.alloc (.cells #[.int .i64 tos, .int .i64 id, .bool df, .bool mf, .int .i64 fr, .int .i64 ttl, .int .i64 pr, .bool false, .int .u64 0, .int .u64 sl, .bool false, .int .u64 0, .int .u64 dl, .slice AO no co] 54)).cell? ⟨w.heap.size, 10, none⟩ = some (.bool false) := ((Below.refl (w.heap.size + 1) (w.alloc (.cells #[.int .i64 tos, .int .i64 id, .bool df, .bool mf, .int .i64 fr, .int .i64 ttl, .int .i64 pr, .bool false, .int .u64 0, .int .u64 sl, .bool false, .int .u64 0, .int .u64 dl, .slice AO no co] 54))).cell (p := ⟨w.heap.size, 10, none⟩) (Nat.lt_succ_self _)).trans (BOX.out.cell 10)
  have o11 : (w.alloc (.cells #[.int .i64 tos, .int .i64 id, .bool df, .bool mf, .int .i64 fr, .int .i64 ttl, .int .i64 pr, .bool false, .int .u64 0, .int .u64 sl, .bool false, .int .u64 0, .int .u64 dl, .slice AO no co] 54)).cell? ⟨w.heap.size, 11, none⟩ = some (.int .u64 0) := ((Below.refl (w.heap.size + 1) (w.alloc (.cells #[.int .i64 tos, .int .i64 id, .bool df, .bool mf, .int .i64 fr, .int .i64 ttl, .int .i64 pr, .bool false, .int .u64 0, .int .u64 sl, .bool false, .int .u64 0, .int .u64 dl, .slice AO no co] 54))).cell (p := ⟨w.heap.size, 11, none⟩) (Nat.lt_succ_self _)).trans (BOX.out.cell 11)
  have o12 : (w.alloc (.cells #[.int .i64 tos, .int .i64 id, .bool df, .bool mf, .int .i64 fr, .int .i64 ttl, .int .i64 pr, .bool false, .int .u64 0, .int .u64 sl, .bool false, .int .u64 0, .int .u64 dl, .slice AO no co] 54)).cell? ⟨w.heap.size, 12, none⟩ = some (.int .u64 dl) := ((Below.refl (w.heap.size + 1) (w.alloc (.cells #[.int .i64 tos, .int .i64 id, .bool df, .bool mf, .int .i64 fr, .int .i64 ttl, .int .i64 pr, .bool false, .int .u64 0, .int .u64 sl, .bool false, .int .u64 0, .int .u64 dl, .slice AO no co] 54))).cell (p := ⟨w.heap.size, 12, none⟩) (Nat.lt_succ_self _)).trans (BOX.out.cell 12)
  have o13 : (w.alloc (.cells #[.int .i64 tos, .int .i64 id, .bool df, .bool mf, .int .i64 fr, .int .i64 ttl, .int .i64 pr, .bool false, .int .u64 0, .int .u64 sl, .bool false, .int .u64 0, .int .u64 dl, .slice AO no co] 54)).cell? ⟨w.heap.size, 13, none⟩ = some (.slice AO no co) := ((Below.refl (w.heap.size + 1) (w.alloc (.cells #[.int .i64 tos, .int .i64 id, .bool df, .bool mf, .int .i64 fr, .int .i64 ttl, .int .i64 pr, .bool false, .int .u64 0, .int .u64 sl, .bool false, .int .u64 0, .int .u64 dl, .slice AO no co] 54))).cell (p := ⟨w.heap.size, 13, none⟩) (Nat.lt_succ_self _)).trans (BOX.out.cell 13)
  go_wp2_with fail
  clear o0 o1 o2 o3 o4 o5 o6 o7 o8 o9 o10 o11 o12 o13
  refine HBY.out.mono ?_
  rintro e w1 ⟨vb, rfl, ownb, hb1⟩
  obtain ⟨gb, cb, rfl, _, gbl, hncb, hcb, _, _⟩ := own_form ownb (by omega)
  have OB1 := Lib.hid ownb
  rw [HSZ.out] at hb1
  have HB1 := Lib.hid hb1
  have HS1 := Lib.hid (show w.heap.size + 1 ≤ w1.heap.size from Nat.le_trans (Nat.le_of_eq HSZ.out.symm) hb1.size)
  unfold maxLen at hcb
  clear hb1 ownb HBY
  generalize w.alloc (.cells #[.int .i64 tos, .int .i64 id, .bool df, .bool mf, .int .i64 fr, .int .i64 ttl, .int .i64 pr, .bool false, .int .u64 0, .int .u64 sl, .bool false, .int .u64 0, .int .u64 dl, .slice AO no co] 54) = V at *
  go_wp2_with fail
  have HKD := Lib.hid (show w1.drew.cell? ⟨w.heap.size, 0, none⟩ = some (.int .i64 tos) ∧ w1.drew.cell? ⟨w.heap.size, 1, none⟩ = some (.int .i64 id) ∧ w1.drew.cell? ⟨w.heap.size, 2, none⟩ = some (.bool df) ∧ w1.drew.cell? ⟨w.heap.size, 3, none⟩ = some (.bool mf) ∧ w1.drew.cell? ⟨w.heap.size, 4, none⟩ = some (.int .i64 fr) ∧ w1.drew.cell? ⟨w.heap.size, 5, none⟩ = some (.int .i64 ttl) ∧ w1.drew.cell? ⟨w.heap.size, 6, none⟩ = some (.int .i64 pr) ∧ w1.drew.cell? ⟨w.heap.size, 7, none⟩ = some (.bool false) ∧ w1.drew.cell? ⟨w.heap.size, 8, none⟩ = some (.int .u64 0) ∧ w1.drew.cell? ⟨w.heap.size, 9, none⟩ = some (.int .u64 sl) ∧ w1.drew.cell? ⟨w.heap.size, 10, none⟩ = some (.bool false) ∧ w1.drew.cell? ⟨w.heap.size, 11, none⟩ = some (.int .u64 0) ∧ w1.drew.cell? ⟨w.heap.size, 12, none⟩ = some (.int .u64 dl) ∧ w1.drew.cell? ⟨w.heap.size, 13, none⟩ = some (.slice AO no co) from ⟨(HB1.out.drew.cell (p := ⟨w.heap.size, 0, none⟩) (Nat.lt_succ_self _)).trans (BOX.out.cell 0), (HB1.out.drew.cell (p := ⟨w.heap.size, 1, none⟩) (Nat.lt_succ_self _)).trans (BOX.out.cell 1), (HB1.out.drew.cell (p := ⟨w.heap.size, 2, none⟩) (Nat.lt_succ_self _)).trans (BOX.out.cell 2), (HB1.out.drew.cell (p := ⟨w.heap.size, 3, none⟩) (Nat.lt_succ_self _)).trans (BOX.out.cell 3), (HB1.out.drew.cell (p := ⟨w.heap.size, 4, none⟩) (Nat.lt_succ_self _)).trans (BOX.out.cell 4), (HB1.out.drew.cell (p := ⟨w.heap.size, 5, none⟩) (Nat.lt_succ_self _)).trans (BOX.out.cell 5), (HB1.out.drew.cell (p := ⟨w.heap.size, 6, none⟩) (Nat.lt_succ_self _)).trans (BOX.out.cell 6), (HB1.out.drew.cell (p := ⟨w.heap.size, 7, none⟩) (Nat.lt_succ_self _)).trans (BOX.out.cell 7), (HB1.out.drew.cell (p := ⟨w.heap.size, 8, none⟩) (Nat.lt_succ_self _)).trans (BOX.out.cell 8), (HB1.out.drew.cell (p := ⟨w.heap.size, 9, none⟩) (Nat.lt_succ_self _)).trans (BOX.out.cell 9), (HB1.out.drew.cell (p := ⟨w.heap.size, 10, none⟩) (Nat.lt_succ_self _)).trans (BOX.out.cell 10), (HB1.out.drew.cell (p := ⟨w.heap.size, 11, none⟩) (Nat.lt_succ_self _)).trans (BOX.out.cell 11), (HB1.out.drew.cell (p := ⟨w.heap.size, 12, none⟩) (Nat.lt_succ_self _)).trans (BOX.out.cell 12), (HB1.out.drew.cell (p := ⟨w.heap.size, 13, none⟩) (Nat.lt_succ_self _)).trans (BOX.out.cell 13)⟩)
  go_region_held3 (fun w' => w'.cell? ⟨w.heap.size, 0, none⟩ = some (.int .i64 tos) ∧ w'.cell? ⟨w.heap.size, 1, none⟩ = some (.int .i64 id) ∧ w'.cell? ⟨w.heap.size, 2, none⟩ = some (.bool df) ∧ w'.cell? ⟨w.heap.size, 3, none⟩ = some (.bool mf) ∧ w'.cell? ⟨w.heap.size, 4, none⟩ = some (.int .i64 fr) ∧ w'.cell? ⟨w.heap.size, 5, none⟩ = some (.int .i64 ttl) ∧ w'.cell? ⟨w.heap.size, 6, none⟩ = some (.int .i64 pr) ∧ w'.cell? ⟨w.heap.size, 7, none⟩ = some (.bool false) ∧ w'.cell? ⟨w.heap.size, 8, none⟩ = some (.int .u64 0) ∧ w'.cell? ⟨w.heap.size, 9, none⟩ = some (.int .u64 sl) ∧ w'.cell? ⟨w.heap.size, 10, none⟩ = some (.bool false) ∧ w'.cell? ⟨w.heap.size, 11, none⟩ = some (.int .u64 0) ∧ w'.cell? ⟨w.heap.size, 12, none⟩ = some (.int .u64 dl) ∧ w'.cell? ⟨w.heap.size, 13, none⟩ = some (.slice AO no co)) (first | with_reducible assumption | with_reducible exact HK3.out | with_reducible exact HK2.out | with_reducible exact HKD.out) (first
    | (go_at_call 32; refine (HRT.out _).mono ?_; rintro e w2 ⟨rfl, hb2⟩; have HB2 := Lib.hid (bel_to HB1.out.drew hb2 HS1.out); have HS2 := Lib.hid (Nat.le_trans HS1.out hb2.size); have OB2 := Lib.hid (own_keep (w := w1.drew) OB1.out hb2); have HK2 := Lib.hid (show w2.cell? ⟨w.heap.size, 0, none⟩ = some (.int .i64 tos) ∧ w2.cell? ⟨w.heap.size, 1, none⟩ = some (.int .i64 id) ∧ w2.cell? ⟨w.heap.size, 2, none⟩ = some (.bool df) ∧ w2.cell? ⟨w.heap.size, 3, none⟩ = some (.bool mf) ∧ w2.cell? ⟨w.heap.size, 4, none⟩ = some (.int .i64 fr) ∧ w2.cell? ⟨w.heap.size, 5, none⟩ = some (.int .i64 ttl) ∧ w2.cell? ⟨w.heap.size, 6, none⟩ = some (.int .i64 pr) ∧ w2.cell? ⟨w.heap.size, 7, none⟩ = some (.bool false) ∧ w2.cell? ⟨w.heap.size, 8, none⟩ = some (.int .u64 0) ∧ w2.cell? ⟨w.heap.size, 9, none⟩ = some (.int .u64 sl) ∧ w2.cell? ⟨w.heap.size, 10, none⟩ = some (.bool false) ∧ w2.cell? ⟨w.heap.size, 11, none⟩ = some (.int .u64 0) ∧ w2.cell? ⟨w.heap.size, 12, none⟩ = some (.int .u64 dl) ∧ w2.cell? ⟨w.heap.size, 13, none⟩ = some (.slice AO no co) from ⟨(HB2.out.cell (p := ⟨w.heap.size, 0, none⟩) (Nat.lt_succ_self _)).trans (BOX.out.cell 0), (HB2.out.cell (p := ⟨w.heap.size, 1, none⟩) (Nat.lt_succ_self _)).trans (BOX.out.cell 1), (HB2.out.cell (p := ⟨w.heap.size, 2, none⟩) (Nat.lt_succ_self _)).trans (BOX.out.cell 2), (HB2.out.cell (p := ⟨w.heap.size, 3, none⟩) (Nat.lt_succ_self _)).trans (BOX.out.cell 3), (HB2.out.cell (p := ⟨w.heap.size, 4, none⟩) (Nat.lt_succ_self _)).trans (BOX.out.cell 4), (HB2.out.cell (p := ⟨w.heap.size, 5, none⟩) (Nat.lt_succ_self _)).trans (BOX.out.cell 5), (HB2.out.cell (p := ⟨w.heap.size, 6, none⟩) (Nat.lt_succ_self _)).trans (BOX.out.cell 6), (HB2.out.cell (p := ⟨w.heap.size, 7, none⟩) (Nat.lt_succ_self _)).trans (BOX.out.cell 7), (HB2.out.cell (p := ⟨w.heap.size, 8, none⟩) (Nat.lt_succ_self _)).trans (BOX.out.cell 8), (HB2.out.cell (p := ⟨w.heap.size, 9, none⟩) (Nat.lt_succ_self _)).trans (BOX.out.cell 9), (HB2.out.cell (p := ⟨w.heap.size, 10, none⟩) (Nat.lt_succ_self _)).trans (BOX.out.cell 10), (HB2.out.cell (p := ⟨w.heap.size, 11, none⟩) (Nat.lt_succ_self _)).trans (BOX.out.cell 11), (HB2.out.cell (p := ⟨w.heap.size, 12, none⟩) (Nat.lt_succ_self _)).trans (BOX.out.cell 12), (HB2.out.cell (p := ⟨w.heap.size, 13, none⟩) (Nat.lt_succ_self _)).trans (BOX.out.cell 13)⟩); clear hb2)
    | (go_at_call 30; refine (HLR.out _).mono ?_; rintro e w3 ⟨rfl, hb3⟩; have HB3 := Lib.hid (bel_to HB2.out hb3 HS2.out); have HS3 := Lib.hid (Nat.le_trans HS2.out hb3.size); have OB3 := Lib.hid (own_keep OB2.out hb3); have HK3 := Lib.hid (show w3.cell? ⟨w.heap.size, 0, none⟩ = some (.int .i64 tos) ∧ w3.cell? ⟨w.heap.size, 1, none⟩ = some (.int .i64 id) ∧ w3.cell? ⟨w.heap.size, 2, none⟩ = some (.bool df) ∧ w3.cell? ⟨w.heap.size, 3, none⟩ = some (.bool mf) ∧ w3.cell? ⟨w.heap.size, 4, none⟩ = some (.int .i64 fr) ∧ w3.cell? ⟨w.heap.size, 5, none⟩ = some (.int .i64 ttl) ∧ w3.cell? ⟨w.heap.size, 6, none⟩ = some (.int .i64 pr) ∧ w3.cell? ⟨w.heap.size, 7, none⟩ = some (.bool false) ∧ w3.cell? ⟨w.heap.size, 8, none⟩ = some (.int .u64 0) ∧ w3.cell? ⟨w.heap.size, 9, none⟩ = some (.int .u64 sl) ∧ w3.cell? ⟨w.heap.size, 10, none⟩ = some (.bool false) ∧ w3.cell? ⟨w.heap.size, 11, none⟩ = some (.int .u64 0) ∧ w3.cell? ⟨w.heap.size, 12, none⟩ = some (.int .u64 dl) ∧ w3.cell? ⟨w.heap.size, 13, none⟩ = some (.slice AO no co) from ⟨(HB3.out.cell (p := ⟨w.heap.size, 0, none⟩) (Nat.lt_succ_self _)).trans (BOX.out.cell 0), (HB3.out.cell (p := ⟨w.heap.size, 1, none⟩) (Nat.lt_succ_self _)).trans (BOX.out.cell 1), (HB3.out.cell (p := ⟨w.heap.size, 2, none⟩) (Nat.lt_succ_self _)).trans (BOX.out.cell 2), (HB3.out.cell (p := ⟨w.heap.size, 3, none⟩) (Nat.lt_succ_self _)).trans (BOX.out.cell 3), (HB3.out.cell (p := ⟨w.heap.size, 4, none⟩) (Nat.lt_succ_self _)).trans (BOX.out.cell 4), (HB3.out.cell (p := ⟨w.heap.size, 5, none⟩) (Nat.lt_succ_self _)).trans (BOX.out.cell 5), (HB3.out.cell (p := ⟨w.heap.size, 6, none⟩) (Nat.lt_succ_self _)).trans (BOX.out.cell 6), (HB3.out.cell (p := ⟨w.heap.size, 7, none⟩) (Nat.lt_succ_self _)).trans (BOX.out.cell 7), (HB3.out.cell (p := ⟨w.heap.size, 8, none⟩) (Nat.lt_succ_self _)).trans (BOX.out.cell 8), (HB3.out.cell (p := ⟨w.heap.size, 9, none⟩) (Nat.lt_succ_self _)).trans (BOX.out.cell 9), (HB3.out.cell (p := ⟨w.heap.size, 10, none⟩) (Nat.lt_succ_self _)).trans (BOX.out.cell 10), (HB3.out.cell (p := ⟨w.heap.size, 11, none⟩) (Nat.lt_succ_self _)).trans (BOX.out.cell 11), (HB3.out.cell (p := ⟨w.heap.size, 12, none⟩) (Nat.lt_succ_self _)).trans (BOX.out.cell 12), (HB3.out.cell (p := ⟨w.heap.size, 13, none⟩) (Nat.lt_succ_self _)).trans (BOX.out.cell 13)⟩); clear hb3))
  clear HKD HK2 HK3 HB1 HS1 OB1 HB2 HS2 OB2 HRT
  have o0 : w3.cell? ⟨w.heap.size, 0, none⟩ = some (.int .i64 tos) := (HB3.out.cell (p := ⟨w.heap.size, 0, none⟩) (Nat.lt_succ_self _)).trans (BOX.out.cell 0)
  have o1 : w3.cell? ⟨w.heap.size, 1, none⟩ = some (.int .i64 id) := (HB3.out.cell (p := ⟨w.heap.size, 1, none⟩) (Nat.lt_succ_self _)).trans (BOX.out.cell 1)
  have o2 : w3.cell? ⟨w.heap.size, 2, none⟩ = some (.bool df) := (HB3.out.cell (p := ⟨w.heap.size, 2, none⟩) (Nat.lt_succ_self _)).trans (BOX.out.cell 2)
  have o3 : w3.cell? ⟨w.heap.size, 3, none⟩ = some (.bool mf) := (HB3.out.cell (p := ⟨w.heap.size, 3, none⟩) (Nat.lt_succ_self _)).trans (BOX.out.cell 3)
  have o4 : w3.cell? ⟨w.heap.size, 4, none⟩ = some (.int .i64 fr) := (HB3.out.cell (p := ⟨w.heap.size, 4, none⟩) (Nat.lt_succ_self _)).trans (BOX.out.cell 4)
  have o5 : w3.cell? ⟨w.heap.size, 5, none⟩ = some (.int .i64 ttl) := (HB3.out.cell (p := ⟨w.heap.size, 5, none⟩) (Nat.lt_succ_self _)).trans (BOX.out.cell 5)
  have o6 : w3.cell? ⟨w.heap.size, 6, none⟩ = some (.int .i64 pr) := (HB3.out.cell (p := ⟨w.heap.size, 6, none⟩) (Nat.lt_succ_self _)).trans (BOX.out.cell 6)
  have o7 : w3.cell? ⟨w.heap.size, 7, none⟩ = some (.bool false) := (HB3.out.cell (p := ⟨w.heap.size, 7, none⟩) (Nat.lt_succ_self _)).trans (BOX.out.cell 7)
  have o8 : w3.cell? ⟨w.heap.size, 8, none⟩ = some (.int .u64 0) := (HB3.out.cell (p := ⟨w.heap.size, 8, none⟩) (Nat.lt_succ_self _)).trans (BOX.out.cell 8)
  have o9 : w3.cell? ⟨w.heap.size, 9, none⟩ = some (.int .u64 sl) := (HB3.out.cell (p := ⟨w.heap.size, 9, none⟩) (Nat.lt_succ_self _)).trans (BOX.out.cell 9)
  have o10 : w3.cell? ⟨w.heap.size, 10, none⟩ = some (.bool false) := (HB3.out.cell (p := ⟨w.heap.size, 10, none⟩) (Nat.lt_succ_self _)).trans (BOX.out.cell 10)
  have o11 : w3.cell? ⟨w.heap.size, 11, none⟩ = some (.int .u64 0) := (HB3.out.cell (p := ⟨w.heap.size, 11, none⟩) (Nat.lt_succ_self _)).trans (BOX.out.cell 11)
  have o12 : w3.cell? ⟨w.heap.size, 12, none⟩ = some (.int .u64 dl) := (HB3.out.cell (p := ⟨w.heap.size, 12, none⟩) (Nat.lt_succ_self _)).trans (BOX.out.cell 12)
  have o13 : w3.cell? ⟨w.heap.size, 13, none⟩ = some (.slice AO no co) := (HB3.out.cell (p := ⟨w.heap.size, 13, none⟩) (Nat.lt_succ_self _)).trans (BOX.out.cell 13)
  go_wp2_with fail
  clear o0 o1 o2 o3 o4 o5 o6 o7 o8 o9 o10 o11 o12 o13
  refine (HLR.out _).mono ?_
  rintro e w4 ⟨rfl, hb4⟩
  have HB4 := Lib.hid (bel_to HB3.out hb4 HS3.out)
  have HS4 := Lib.hid (Nat.le_trans HS3.out hb4.size)
  have OB4 := Lib.hid (own_keep OB3.out hb4)
  clear hb4 HB3 HS3 OB3 HLR
  have HBW := Lib.hid (show Below w.heap.size w w4.drew from (HB0.out.trans (HB4.out.mono (Nat.le_succ _))).drew)
  have HLX := Lib.hid (HLB2.out w4.drew ((RO.out.below HBW.out).more HBW.out.size) ((R1.out.below HBW.out).more HBW.out.size))
  go_upto_region 7 with fail
  go_cut [60] (fun s60 wx => s60 = .bool false ∧ Below (w.heap.size + 1) V wx ∧ w.heap.size + 1 ≤ wx.heap.size ∧ wx.ownsRow V.heap.size 5 1 (.slice (some ⟨gb, 0, none⟩) N cb) N (X.map (.int .u8)))
  case first =>
    have rw20 : IntKind.i64.wrap (20 + (no : Int)) = 20 + (no : Int) := by rw [IntKind.wrap_i64]; omega
    have cv0 := conv_any (w := w4.drew) (c := cb) (own_row OB4.out) HXL.out
    have o0 : w4.drew.cell? ⟨w.heap.size, 0, none⟩ = some (.int .i64 tos) := (HB4.out.drew.cell (p := ⟨w.heap.size, 0, none⟩) (Nat.lt_succ_self _)).trans (BOX.out.cell 0)
    have o1 : w4.drew.cell? ⟨w.heap.size, 1, none⟩ = some (.int .i64 id) := (HB4.out.drew.cell (p := ⟨w.heap.size, 1, none⟩) (Nat.lt_succ_self _)).trans (BOX.out.cell 1)
    have o2 : w4.drew.cell? ⟨w.heap.size, 2, none⟩ = some (.bool df) := (HB4.out.drew.cell (p := ⟨w.heap.size, 2, none⟩) (Nat.lt_succ_self _)).trans (BOX.out.cell 2)
    have o3 : w4.drew.cell? ⟨w.heap.size, 3, none⟩ = some (.bool mf) := (HB4.out.drew.cell (p := ⟨w.heap.size, 3, none⟩) (Nat.lt_succ_self _)).trans (BOX.out.cell 3)
    have o4 : w4.drew.cell? ⟨w.heap.size, 4, none⟩ = some (.int .i64 fr) := (HB4.out.drew.cell (p := ⟨w.heap.size, 4, none⟩) (Nat.lt_succ_self _)).trans (BOX.out.cell 4)
    have o5 : w4.drew.cell? ⟨w.heap.size, 5, none⟩ = some (.int .i64 ttl) := (HB4.out.drew.cell (p := ⟨w.heap.size, 5, none⟩) (Nat.lt_succ_self _)).trans (BOX.out.cell 5)
    have o6 : w4.drew.cell? ⟨w.heap.size, 6, none⟩ = some (.int .i64 pr) := (HB4.out.drew.cell (p := ⟨w.heap.size, 6, none⟩) (Nat.lt_succ_self _)).trans (BOX.out.cell 6)
    have o7 : w4.drew.cell? ⟨w.heap.size, 7, none⟩ = some (.bool false) := (HB4.out.drew.cell (p := ⟨w.heap.size, 7, none⟩) (Nat.lt_succ_self _)).trans (BOX.out.cell 7)
    have o8 : w4.drew.cell? ⟨w.heap.size, 8, none⟩ = some (.int .u64 0) := (HB4.out.drew.cell (p := ⟨w.heap.size, 8, none⟩) (Nat.lt_succ_self _)).trans (BOX.out.cell 8)
    have o9 : w4.drew.cell? ⟨w.heap.size, 9, none⟩ = some (.int .u64 sl) := (HB4.out.drew.cell (p := ⟨w.heap.size, 9, none⟩) (Nat.lt_succ_self _)).trans (BOX.out.cell 9)
    have o10 : w4.drew.cell? ⟨w.heap.size, 10, none⟩ = some (.bool false) := (HB4.out.drew.cell (p := ⟨w.heap.size, 10, none⟩) (Nat.lt_succ_self _)).trans (BOX.out.cell 10)
    have o11 : w4.drew.cell? ⟨w.heap.size, 11, none⟩ = some (.int .u64 0) := (HB4.out.drew.cell (p := ⟨w.heap.size, 11, none⟩) (Nat.lt_succ_self _)).trans (BOX.out.cell 11)
    have o12 : w4.drew.cell? ⟨w.heap.size, 12, none⟩ = some (.int .u64 dl) := (HB4.out.drew.cell (p := ⟨w.heap.size, 12, none⟩) (Nat.lt_succ_self _)).trans (BOX.out.cell 12)
    have o13 : w4.drew.cell? ⟨w.heap.size, 13, none⟩ = some (.slice AO no co) := (HB4.out.drew.cell (p := ⟨w.heap.size, 13, none⟩) (Nat.lt_succ_self _)).trans (BOX.out.cell 13)
    go_region_with (first
      | (go_at_call 29; (with_reducible refine HLX.out.mono ?_); rintro e w5 ⟨vw, rfl, ownw, hb5⟩; obtain ⟨Aw, cw, rfl⟩ := own_slice ownw; have OB5 := Lib.hid (own_keep (w := w4.drew) OB4.out hb5); have cv1 := conv_any (c := cb) (own_row OB5.out) HXL.out; have cv2 := conv_any (c := cw) (own_row ownw) HXL.out; have HB5 := Lib.hid (bel_to HB4.out.drew hb5 HS4.out); have HS5 := Lib.hid (Nat.le_trans HS4.out hb5.size); have p0 : w5.cell? ⟨w.heap.size, 0, none⟩ = some (.int .i64 tos) := (HB5.out.cell (p := ⟨w.heap.size, 0, none⟩) (Nat.lt_succ_self _)).trans (BOX.out.cell 0); have p1 : w5.cell? ⟨w.heap.size, 1, none⟩ = some (.int .i64 id) := (HB5.out.cell (p := ⟨w.heap.size, 1, none⟩) (Nat.lt_succ_self _)).trans (BOX.out.cell 1); have p2 : w5.cell? ⟨w.heap.size, 2, none⟩ = some (.bool df) := (HB5.out.cell (p := ⟨w.heap.size, 2, none⟩) (Nat.lt_succ_self _)).trans (BOX.out.cell 2); have p3 : w5.cell? ⟨w.heap.size, 3, none⟩ = some (.bool mf) := (HB5.out.cell (p := ⟨w.heap.size, 3, none⟩) (Nat.lt_succ_self _)).trans (BOX.out.cell 3); have p4 : w5.cell? ⟨w.heap.size, 4, none⟩ = some (.int .i64 fr) := (HB5.out.cell (p := ⟨w.heap.size, 4, none⟩) (Nat.lt_succ_self _)).trans (BOX.out.cell 4); have p5 : w5.cell? ⟨w.heap.size, 5, none⟩ = some (.int .i64 ttl) := (HB5.out.cell (p := ⟨w.heap.size, 5, none⟩) (Nat.lt_succ_self _)).trans (BOX.out.cell 5); have p6 : w5.cell? ⟨w.heap.size, 6, none⟩ = some (.int .i64 pr) := (HB5.out.cell (p := ⟨w.heap.size, 6, none⟩) (Nat.lt_succ_self _)).trans (BOX.out.cell 6); have p7 : w5.cell? ⟨w.heap.size, 7, none⟩ = some (.bool false) := (HB5.out.cell (p := ⟨w.heap.size, 7, none⟩) (Nat.lt_succ_self _)).trans (BOX.out.cell 7); have p8 : w5.cell? ⟨w.heap.size, 8, none⟩ = some (.int .u64 0) := (HB5.out.cell (p := ⟨w.heap.size, 8, none⟩) (Nat.lt_succ_self _)).trans (BOX.out.cell 8); have p9 : w5.cell? ⟨w.heap.size, 9, none⟩ = some (.int .u64 sl) := (HB5.out.cell (p := ⟨w.heap.size, 9, none⟩) (Nat.lt_succ_self _)).trans (BOX.out.cell 9); have p10 : w5.cell? ⟨w.heap.size, 10, none⟩ = some (.bool false) := (HB5.out.cell (p := ⟨w.heap.size, 10, none⟩) (Nat.lt_succ_self _)).trans (BOX.out.cell 10); have p11 : w5.cell? ⟨w.heap.size, 11, none⟩ = some (.int .u64 0) := (HB5.out.cell (p := ⟨w.heap.size, 11, none⟩) (Nat.lt_succ_self _)).trans (BOX.out.cell 11); have p12 : w5.cell? ⟨w.heap.size, 12, none⟩ = some (.int .u64 dl) := (HB5.out.cell (p := ⟨w.heap.size, 12, none⟩) (Nat.lt_succ_self _)).trans (BOX.out.cell 12); have p13 : w5.cell? ⟨w.heap.size, 13, none⟩ = some (.slice AO no co) := (HB5.out.cell (p := ⟨w.heap.size, 13, none⟩) (Nat.lt_succ_self _)).trans (BOX.out.cell 13); clear hb5 ownw)
      | (go_at_call 33; refine (HLN.out _).mono ?_; rintro e w6 ⟨rfl, hb6⟩; have OB6 := Lib.hid (own_keep OB5.out hb6); have HB6 := Lib.hid (bel_to HB5.out hb6 HS5.out); have HS6 := Lib.hid (Nat.le_trans HS5.out hb6.size); have p13' : w6.cell? ⟨w.heap.size, 13, none⟩ = some (.slice AO no co) := (HB6.out.cell (p := ⟨w.heap.size, 13, none⟩) (Nat.lt_succ_self _)).trans (BOX.out.cell 13); clear hb6))
    all_goals (go_wp2_with fail; go_meet; exact ⟨rfl, HB6.out, HS6.out, OB6.out⟩)
  case rest =>
    obtain ⟨rfl, hbc, hsc, obc⟩ := hcut
    obtain ⟨w6, rfl⟩ : ∃ w6 : World, w6 = wc := ⟨_, rfl⟩
    have HB6 := Lib.hid hbc
    have HS6 := Lib.hid hsc
    have OB6 := Lib.hid obc
    clear hbc hsc obc HBW HLX HB4 HS4 OB4 HLB2 HLN
    have HBW := Lib.hid (show Below w.heap.size w w6 from HB0.out.trans (HB6.out.mono (Nat.le_succ _)))
    have HLIT := Lib.hid (World.ownsRow_lit (base := w6.heap.size) (e := 5) (size := 1) w6 #[] 0 (Nat.le_refl _) (Nat.zero_le _) rfl)
    have BLA := Lib.hid ((Below.refl w6.heap.size w6).alloc (Nat.le_refl _) (.cells #[] 5))
    go_wp2_with (first
      | (at_builtin; refine wpList_append_row rfl (.tmp 62) (.tmp 63) _ rfl w6.heap.size 5 i0 _ 1 Try.underlying22 HI0.out HZ0.out HZ1.out HZ2.out rfl (.slice (some ⟨w6.heap.size, 0, none⟩) 0 0) 0 [] rfl HLIT.out (some ⟨gb, 0, none⟩) N cb w6.heap.size (X.map (.int .u8)) rfl (by intro h; cases h) (by rw [List.length_map]; exact HXL.out) ((own_row OB6.out).below BLA.out) (ONE.out _) ME1.out ME2.out (by simp) ?_; intro va wa owna ga; have HOa := Lib.hid (show wa.ownsRow w6.heap.size 5 1 va N (X.map (.int .u8)) from by simpa using owna); have HBa := Lib.hid (below_grown BLA.out HLIT.out (Nat.le_refl _) (by simp) ga); clear owna ga)
      | (go_at_call 24; refine (C2.out _).mono ?_; rintro e w' ⟨rfl, rfl⟩)
      | (at_builtin; have hsa := HBa.out.size; refine wpList_append_row rfl (.tmp 64) (.tmp 66) _ rfl w6.heap.size 5 i0 _ 1 Try.underlying22 HI0.out HZ0.out HZ1.out HZ2.out rfl va N _ rfl HOa.out A3 n3 c3 w.heap.size (l3.map (.int .u8)) rfl Z3.out (by rw [List.length_map]; exact L3.out) (R3.out.below (HBW.out.trans (HBa.out.mono HBW.out.size))) (ONE.out _) ME3.out ME4.out hsa ?_; intro vb2 wb ownb2 gb_; have HOb := Lib.hid ownb2; have HBb := Lib.hid (below_grown HBa.out HOa.out (Nat.le_refl _) hsa gb_); clear ownb2 gb_))
    have hob := HOb.out
    rw [← List.map_append] at hob
    obtain ⟨gy, cy, rfl, _, gyl, hncy, hcy, _, _⟩ := own_form hob (by omega)
    unfold maxLen at hcy
    have HPX := Lib.hid (HPA.out gy cy wb hncy hcy gyl (Go.Proofs.Ytgikoljnmmnkkaa.net.lies_own hob (by rw [List.length_append, HXL.out, L3.out])))
    have HBW2 := Lib.hid (bel_call HBW.out HBb.out)
    have OB8 := Lib.hid (own_keep OB6.out HBb.out)
    have HB8 := Lib.hid (bel_to HB6.out HBb.out HS6.out)
    have HS8 := Lib.hid (Nat.le_trans HS6.out HBb.out.size)
    clear hob HOa HOb HBa HBb HLIT BLA HBW OB6 HB6 HS6
    refine HPX.out.mono ?_
    rintro e w9 ⟨AP, cp, AR, cr, rfl, rowP, rowR, hb9⟩
    rw [L1.out]
    have OB9 := Lib.hid ((own_keep OB8.out hb9).alloc (.cells #[.int .i64 tos, .int .i64 id, .bool df, .bool mf, .int .i64 fr, .int .i64 ttl, .int .i64 pr, .bool false, .int .u64 0, .int .u64 sl, .bool false, .int .u64 0, .int .u64 dl, .slice AP no cp] 54))
    have HB9 := Lib.hid ((bel_to HB8.out hb9 HS8.out).alloc (Nat.le_trans HS8.out hb9.size) (.cells #[.int .i64 tos, .int .i64 id, .bool df, .bool mf, .int .i64 fr, .int .i64 ttl, .int .i64 pr, .bool false, .int .u64 0, .int .u64 sl, .bool false, .int .u64 0, .int .u64 dl, .slice AP no cp] 54))
    have HS9 := Lib.hid (Nat.le_trans (Nat.le_trans HS8.out hb9.size) ((Below.refl 0 _).alloc (Nat.zero_le _) (.cells #[.int .i64 tos, .int .i64 id, .bool df, .bool mf, .int .i64 fr, .int .i64 ttl, .int .i64 pr, .bool false, .int .u64 0, .int .u64 sl, .bool false, .int .u64 0, .int .u64 dl, .slice AP no cp] 54)).size)
    have HBW9 := Lib.hid (bel_alloc (bel_call HBW2.out hb9) (.cells #[.int .i64 tos, .int .i64 id, .bool df, .bool mf, .int .i64 fr, .int .i64 ttl, .int .i64 pr, .bool false, .int .u64 0, .int .u64 sl, .bool false, .int .u64 0, .int .u64 dl, .slice AP no cp] 54))
    have RP := Lib.hid ((rowP.below ((Below.refl _ _).alloc (Nat.le_refl _) (.cells #[.int .i64 tos, .int .i64 id, .bool df, .bool mf, .int .i64 fr, .int .i64 ttl, .int .i64 pr, .bool false, .int .u64 0, .int .u64 sl, .bool false, .int .u64 0, .int .u64 dl, .slice AP no cp] 54))).more ((Below.refl 0 _).alloc (Nat.zero_le _) (.cells #[.int .i64 tos, .int .i64 id, .bool df, .bool mf, .int .i64 fr, .int .i64 ttl, .int .i64 pr, .bool false, .int .u64 0, .int .u64 sl, .bool false, .int .u64 0, .int .u64 dl, .slice AP no cp] 54)).size)
    have RR := Lib.hid ((rowR.below ((Below.refl _ _).alloc (Nat.le_refl _) (.cells #[.int .i64 tos, .int .i64 id, .bool df, .bool mf, .int .i64 fr, .int .i64 ttl, .int .i64 pr, .bool false, .int .u64 0, .int .u64 sl, .bool false, .int .u64 0, .int .u64 dl, .slice AP no cp] 54))).more ((Below.refl 0 _).alloc (Nat.zero_le _) (.cells #[.int .i64 tos, .int .i64 id, .bool df, .bool mf, .int .i64 fr, .int .i64 ttl, .int .i64 pr, .bool false, .int .u64 0, .int .u64 sl, .bool false, .int .u64 0, .int .u64 dl, .slice AP no cp] 54)).size)
    have BX9 := Lib.hid (Blk.new w9 54 #[.int .i64 tos, .int .i64 id, .bool df, .bool mf, .int .i64 fr, .int .i64 ttl, .int .i64 pr, .bool false, .int .u64 0, .int .u64 sl, .bool false, .int .u64 0, .int .u64 dl, .slice AP no cp])
    clear rowP rowR hb9 HPX OB8 HB8 HS8 HBW2
    have HQX := Lib.hid (HQA.out gb cb (w9.alloc (.cells #[.int .i64 tos, .int .i64 id, .bool df, .bool mf, .int .i64 fr, .int .i64 ttl, .int .i64 pr, .bool false, .int .u64 0, .int .u64 sl, .bool false, .int .u64 0, .int .u64 dl, .slice AP no cp] 54)) hncb hcb (OB9.out.lt gb rfl).2 (Go.Proofs.Ytgikoljnmmnkkaa.net.lies_own OB9.out HXL.out))
    go_wp2_with fail
    refine HQX.out.mono ?_
    rintro e w10 ⟨AQ, cq, AS, cs, rfl, rowQ, rowS, hb10⟩
    rw [L1.out]
    have o1 := (Below.refl w10.heap.size w10).alloc (Nat.le_refl _) (.cells #[.int .i64 tos, .int .i64 id, .bool df, .bool mf, .int .i64 fr, .int .i64 ttl, .int .i64 pr, .bool false, .int .u64 0, .int .u64 sl, .bool false, .int .u64 0, .int .u64 dl, .slice AQ no cq] 54)
    have HB10 := Lib.hid ((bel_to HB9.out hb10 HS9.out).alloc (Nat.le_trans HS9.out hb10.size) (.cells #[.int .i64 tos, .int .i64 id, .bool df, .bool mf, .int .i64 fr, .int .i64 ttl, .int .i64 pr, .bool false, .int .u64 0, .int .u64 sl, .bool false, .int .u64 0, .int .u64 dl, .slice AQ no cq] 54))
    have HBW10 := Lib.hid (bel_alloc (bel_call HBW9.out hb10) (.cells #[.int .i64 tos, .int .i64 id, .bool df, .bool mf, .int .i64 fr, .int .i64 ttl, .int .i64 pr, .bool false, .int .u64 0, .int .u64 sl, .bool false, .int .u64 0, .int .u64 dl, .slice AQ no cq] 54))
    have RP2 := Lib.hid ((RP.out.below (hb10.trans (o1.mono hb10.size))).more (hb10.trans (o1.mono hb10.size)).size)
    have RR2 := Lib.hid ((RR.out.below (hb10.trans (o1.mono hb10.size))).more (hb10.trans (o1.mono hb10.size)).size)
    have RQ := Lib.hid ((rowQ.below o1).more o1.size)
    have RS := Lib.hid ((rowS.below o1).more o1.size)
    have BX9b := Lib.hid ((BX9.out.below hb10 BX9.out.lt).alloc (.cells #[.int .i64 tos, .int .i64 id, .bool df, .bool mf, .int .i64 fr, .int .i64 ttl, .int .i64 pr, .bool false, .int .u64 0, .int .u64 sl, .bool false, .int .u64 0, .int .u64 dl, .slice AQ no cq] 54))
    have BX10 := Lib.hid (Blk.new w10 54 #[.int .i64 tos, .int .i64 id, .bool df, .bool mf, .int .i64 fr, .int .i64 ttl, .int .i64 pr, .bool false, .int .u64 0, .int .u64 sl, .bool false, .int .u64 0, .int .u64 dl, .slice AQ no cq])
    have hkk := Lib.hid (Nat.lt_of_lt_of_le BX9.out.lt hb10.size)
    have hlb := Lib.hid (Nat.le_trans HS9.out hb10.size)
    clear rowQ rowS hb10 HQX OB9 HB9 HS9 HBW9 RP RR BX9 o1
    have ROX := Lib.hid ((RO.out.below HBW10.out).more HBW10.out.size)
    have HS1X := Lib.hid (HSA.out AP cp (w10.alloc (.cells #[.int .i64 tos, .int .i64 id, .bool df, .bool mf, .int .i64 fr, .int .i64 ttl, .int .i64 pr, .bool false, .int .u64 0, .int .u64 sl, .bool false, .int .u64 0, .int .u64 dl, .slice AQ no cq] 54)) RP2.out ROX.out)
    have d0 : (w10.alloc (.cells #[.int .i64 tos, .int .i64 id, .bool df, .bool mf, .int .i64 fr, .int .i64 ttl, .int .i64 pr, .bool false, .int .u64 0, .int .u64 sl, .bool false, .int .u64 0, .int .u64 dl, .slice AQ no cq] 54)).cell? ⟨w9.heap.size, 0, none⟩ = some (.int .i64 tos) := BX9b.out.cell 0
    have d1 : (w10.alloc (.cells #[.int .i64 tos, .int .i64 id, .bool df, .bool mf, .int .i64 fr, .int .i64 ttl, .int .i64 pr, .bool false, .int .u64 0, .int .u64 sl, .bool false, .int .u64 0, .int .u64 dl, .slice AQ no cq] 54)).cell? ⟨w9.heap.size, 1, none⟩ = some (.int .i64 id) := BX9b.out.cell 1
    have d2 : (w10.alloc (.cells #[.int .i64 tos, .int .i64 id, .bool df, .bool mf, .int .i64 fr, .int .i64 ttl, .int .i64 pr, .bool false, .int .u64 0, .int .u64 sl, .bool false, .int .u64 0, .int .u64 dl, .slice AQ no cq] 54)).cell? ⟨w9.heap.size, 2, none⟩ = some (.bool df) := BX9b.out.cell 2
    have d3 : (w10.alloc (.cells #[.int .i64 tos, .int .i64 id, .bool df, .bool mf, .int .i64 fr, .int .i64 ttl, .int .i64 pr, .bool false, .int .u64 0, .int .u64 sl, .bool false, .int .u64 0, .int .u64 dl, .slice AQ no cq] 54)).cell? ⟨w9.heap.size, 3, none⟩ = some (.bool mf) := BX9b.out.cell 3
    have d4 : (w10.alloc (.cells #[.int .i64 tos, .int .i64 id, .bool df, .bool mf, .int .i64 fr, .int .i64 ttl, .int .i64 pr, .bool false, .int .u64 0, .int .u64 sl, .bool false, .int .u64 0, .int .u64 dl, .slice AQ no cq] 54)).cell? ⟨w9.heap.size, 4, none⟩ = some (.int .i64 fr) := BX9b.out.cell 4
    have d5 : (w10.alloc (.cells #[.int .i64 tos, .int .i64 id, .bool df, .bool mf, .int .i64 fr, .int .i64 ttl, .int .i64 pr, .bool false, .int .u64 0, .int .u64 sl, .bool false, .int .u64 0, .int .u64 dl, .slice AQ no cq] 54)).cell? ⟨w9.heap.size, 5, none⟩ = some (.int .i64 ttl) := BX9b.out.cell 5
    have d6 : (w10.alloc (.cells #[.int .i64 tos, .int .i64 id, .bool df, .bool mf, .int .i64 fr, .int .i64 ttl, .int .i64 pr, .bool false, .int .u64 0, .int .u64 sl, .bool false, .int .u64 0, .int .u64 dl, .slice AQ no cq] 54)).cell? ⟨w9.heap.size, 6, none⟩ = some (.int .i64 pr) := BX9b.out.cell 6
    have d7 : (w10.alloc (.cells #[.int .i64 tos, .int .i64 id, .bool df, .bool mf, .int .i64 fr, .int .i64 ttl, .int .i64 pr, .bool false, .int .u64 0, .int .u64 sl, .bool false, .int .u64 0, .int .u64 dl, .slice AQ no cq] 54)).cell? ⟨w9.heap.size, 7, none⟩ = some (.bool false) := BX9b.out.cell 7
    have d8 : (w10.alloc (.cells #[.int .i64 tos, .int .i64 id, .bool df, .bool mf, .int .i64 fr, .int .i64 ttl, .int .i64 pr, .bool false, .int .u64 0, .int .u64 sl, .bool false, .int .u64 0, .int .u64 dl, .slice AQ no cq] 54)).cell? ⟨w9.heap.size, 8, none⟩ = some (.int .u64 0) := BX9b.out.cell 8
    have d9 : (w10.alloc (.cells #[.int .i64 tos, .int .i64 id, .bool df, .bool mf, .int .i64 fr, .int .i64 ttl, .int .i64 pr, .bool false, .int .u64 0, .int .u64 sl, .bool false, .int .u64 0, .int .u64 dl, .slice AQ no cq] 54)).cell? ⟨w9.heap.size, 9, none⟩ = some (.int .u64 sl) := BX9b.out.cell 9
    have d10 : (w10.alloc (.cells #[.int .i64 tos, .int .i64 id, .bool df, .bool mf, .int .i64 fr, .int .i64 ttl, .int .i64 pr, .bool false, .int .u64 0, .int .u64 sl, .bool false, .int .u64 0, .int .u64 dl, .slice AQ no cq] 54)).cell? ⟨w9.heap.size, 10, none⟩ = some (.bool false) := BX9b.out.cell 10
    have d11 : (w10.alloc (.cells #[.int .i64 tos, .int .i64 id, .bool df, .bool mf, .int .i64 fr, .int .i64 ttl, .int .i64 pr, .bool false, .int .u64 0, .int .u64 sl, .bool false, .int .u64 0, .int .u64 dl, .slice AQ no cq] 54)).cell? ⟨w9.heap.size, 11, none⟩ = some (.int .u64 0) := BX9b.out.cell 11
    have d12 : (w10.alloc (.cells #[.int .i64 tos, .int .i64 id, .bool df, .bool mf, .int .i64 fr, .int .i64 ttl, .int .i64 pr, .bool false, .int .u64 0, .int .u64 sl, .bool false, .int .u64 0, .int .u64 dl, .slice AQ no cq] 54)).cell? ⟨w9.heap.size, 12, none⟩ = some (.int .u64 dl) := BX9b.out.cell 12
    have d13 : (w10.alloc (.cells #[.int .i64 tos, .int .i64 id, .bool df, .bool mf, .int .i64 fr, .int .i64 ttl, .int .i64 pr, .bool false, .int .u64 0, .int .u64 sl, .bool false, .int .u64 0, .int .u64 dl, .slice AQ no cq] 54)).cell? ⟨w9.heap.size, 13, none⟩ = some (.slice AP no cp) := BX9b.out.cell 13
    have o0 : (w10.alloc (.cells #[.int .i64 tos, .int .i64 id, .bool df, .bool mf, .int .i64 fr, .int .i64 ttl, .int .i64 pr, .bool false, .int .u64 0, .int .u64 sl, .bool false, .int .u64 0, .int .u64 dl, .slice AQ no cq] 54)).cell? ⟨w.heap.size, 0, none⟩ = some (.int .i64 tos) := (HB10.out.cell (p := ⟨w.heap.size, 0, none⟩) (Nat.lt_succ_self _)).trans (BOX.out.cell 0)
    have o1 : (w10.alloc (.cells #[.int .i64 tos, .int .i64 id, .bool df, .bool mf, .int .i64 fr, .int .i64 ttl, .int .i64 pr, .bool false, .int .u64 0, .int .u64 sl, .bool false, .int .u64 0, .int .u64 dl, .slice AQ no cq] 54)).cell? ⟨w.heap.size, 1, none⟩ = some (.int .i64 id) := (HB10.out.cell (p := ⟨w.heap.size, 1, none⟩) (Nat.lt_succ_self _)).trans (BOX.out.cell 1)
    have o2 : (w10.alloc (.cells #[.int .i64 tos, .int .i64 id, .bool df, .bool mf, .int .i64 fr, .int .i64 ttl, .int .i64 pr, .bool false, .int .u64 0, .int .u64 sl, .bool false, .int .u64 0, .int .u64 dl, .slice AQ no cq] 54)).cell? ⟨w.heap.size, 2, none⟩ = some (.bool df) := (HB10.out.cell (p := ⟨w.heap.size, 2, none⟩) (Nat.lt_succ_self _)).trans (BOX.out.cell 2)
    have o3 : (w10.alloc (.cells #[.int .i64 tos, .int .i64 id, .bool df, .bool mf, .int .i64 fr, .int .i64 ttl, .int .i64 pr, .bool false, .int .u64 0, .int .u64 sl, .bool false, .int .u64 0, .int .u64 dl, .slice AQ no cq] 54)).cell? ⟨w.heap.size, 3, none⟩ = some (.bool mf) := (HB10.out.cell (p := ⟨w.heap.size, 3, none⟩) (Nat.lt_succ_self _)).trans (BOX.out.cell 3)
    have o4 : (w10.alloc (.cells #[.int .i64 tos, .int .i64 id, .bool df, .bool mf, .int .i64 fr, .int .i64 ttl, .int .i64 pr, .bool false, .int .u64 0, .int .u64 sl, .bool false, .int .u64 0, .int .u64 dl, .slice AQ no cq] 54)).cell? ⟨w.heap.size, 4, none⟩ = some (.int .i64 fr) := (HB10.out.cell (p := ⟨w.heap.size, 4, none⟩) (Nat.lt_succ_self _)).trans (BOX.out.cell 4)
    have o5 : (w10.alloc (.cells #[.int .i64 tos, .int .i64 id, .bool df, .bool mf, .int .i64 fr, .int .i64 ttl, .int .i64 pr, .bool false, .int .u64 0, .int .u64 sl, .bool false, .int .u64 0, .int .u64 dl, .slice AQ no cq] 54)).cell? ⟨w.heap.size, 5, none⟩ = some (.int .i64 ttl) := (HB10.out.cell (p := ⟨w.heap.size, 5, none⟩) (Nat.lt_succ_self _)).trans (BOX.out.cell 5)
    have o6 : (w10.alloc (.cells #[.int .i64 tos, .int .i64 id, .bool df, .bool mf, .int .i64 fr, .int .i64 ttl, .int .i64 pr, .bool false, .int .u64 0, .int .u64 sl, .bool false, .int .u64 0, .int .u64 dl, .slice AQ no cq] 54)).cell? ⟨w.heap.size, 6, none⟩ = some (.int .i64 pr) := (HB10.out.cell (p := ⟨w.heap.size, 6, none⟩) (Nat.lt_succ_self _)).trans (BOX.out.cell 6)
    have o7 : (w10.alloc (.cells #[.int .i64 tos, .int .i64 id, .bool df, .bool mf, .int .i64 fr, .int .i64 ttl, .int .i64 pr, .bool false, .int .u64 0, .int .u64 sl, .bool false, .int .u64 0, .int .u64 dl, .slice AQ no cq] 54)).cell? ⟨w.heap.size, 7, none⟩ = some (.bool false) := (HB10.out.cell (p := ⟨w.heap.size, 7, none⟩) (Nat.lt_succ_self _)).trans (BOX.out.cell 7)
    have o8 : (w10.alloc (.cells #[.int .i64 tos, .int .i64 id, .bool df, .bool mf, .int .i64 fr, .int .i64 ttl, .int .i64 pr, .bool false, .int .u64 0, .int .u64 sl, .bool false, .int .u64 0, .int .u64 dl, .slice AQ no cq] 54)).cell? ⟨w.heap.size, 8, none⟩ = some (.int .u64 0) := (HB10.out.cell (p := ⟨w.heap.size, 8, none⟩) (Nat.lt_succ_self _)).trans (BOX.out.cell 8)
    have o9 : (w10.alloc (.cells #[.int .i64 tos, .int .i64 id, .bool df, .bool mf, .int .i64 fr, .int .i64 ttl, .int .i64 pr, .bool false, .int .u64 0, .int .u64 sl, .bool false, .int .u64 0, .int .u64 dl, .slice AQ no cq] 54)).cell? ⟨w.heap.size, 9, none⟩ = some (.int .u64 sl) := (HB10.out.cell (p := ⟨w.heap.size, 9, none⟩) (Nat.lt_succ_self _)).trans (BOX.out.cell 9)
    have o10 : (w10.alloc (.cells #[.int .i64 tos, .int .i64 id, .bool df, .bool mf, .int .i64 fr, .int .i64 ttl, .int .i64 pr, .bool false, .int .u64 0, .int .u64 sl, .bool false, .int .u64 0, .int .u64 dl, .slice AQ no cq] 54)).cell? ⟨w.heap.size, 10, none⟩ = some (.bool false) := (HB10.out.cell (p := ⟨w.heap.size, 10, none⟩) (Nat.lt_succ_self _)).trans (BOX.out.cell 10)
    have o11 : (w10.alloc (.cells #[.int .i64 tos, .int .i64 id, .bool df, .bool mf, .int .i64 fr, .int .i64 ttl, .int .i64 pr, .bool false, .int .u64 0, .int .u64 sl, .bool false, .int .u64 0, .int .u64 dl, .slice AQ no cq] 54)).cell? ⟨w.heap.size, 11, none⟩ = some (.int .u64 0) := (HB10.out.cell (p := ⟨w.heap.size, 11, none⟩) (Nat.lt_succ_self _)).trans (BOX.out.cell 11)
    have o12 : (w10.alloc (.cells #[.int .i64 tos, .int .i64 id, .bool df, .bool mf, .int .i64 fr, .int .i64 ttl, .int .i64 pr, .bool false, .int .u64 0, .int .u64 sl, .bool false, .int .u64 0, .int .u64 dl, .slice AQ no cq] 54)).cell? ⟨w.heap.size, 12, none⟩ = some (.int .u64 dl) := (HB10.out.cell (p := ⟨w.heap.size, 12, none⟩) (Nat.lt_succ_self _)).trans (BOX.out.cell 12)
    have o13 : (w10.alloc (.cells #[.int .i64 tos, .int .i64 id, .bool df, .bool mf, .int .i64 fr, .int .i64 ttl, .int .i64 pr, .bool false, .int .u64 0, .int .u64 sl, .bool false, .int .u64 0, .int .u64 dl, .slice AQ no cq] 54)).cell? ⟨w.heap.size, 13, none⟩ = some (.slice AO no co) := (HB10.out.cell (p := ⟨w.heap.size, 13, none⟩) (Nat.lt_succ_self _)).trans (BOX.out.cell 13)
    have ltk := hkk.out
    have ltb : w.heap.size < w10.heap.size := hlb.out
    go_wp2_with fail
    clear o0 o1 o2 o3 o4 o5 o6 o7 o8 o9 o10 o11 o12 o13 d0 d1 d2 d3 d4 d5 d6 d7 d8 d9 d10 d11 d12 d13
    refine HS1X.out.mono ?_
    rintro e w11 ⟨rfl, hb11⟩
    have HB11 := Lib.hid (HB10.out.trans (hb11.mono (by have := HB10.out.size; have := HSZ.out; omega)))
    have HBW11 := Lib.hid (bel_call HBW10.out hb11)
    have RR3 := Lib.hid ((RR2.out.below hb11).more hb11.size)
    have RQ3 := Lib.hid ((RQ.out.below hb11).more hb11.size)
    have RS3 := Lib.hid ((RS.out.below hb11).more hb11.size)
    have BX11 := Lib.hid (BX10.out.below hb11 BX10.out.lt)
    have ROY := Lib.hid ((RO.out.below HBW11.out).more HBW11.out.size)
    have HS2X := Lib.hid (HSA.out AQ cq w11 RQ3.out ROY.out)
    clear hb11 HS1X ROX HB10 HBW10 RP2 RR2 RQ RS BX9b BX10
    have d0 : w11.cell? ⟨w10.heap.size, 0, none⟩ = some (.int .i64 tos) := BX11.out.cell 0
    have d1 : w11.cell? ⟨w10.heap.size, 1, none⟩ = some (.int .i64 id) := BX11.out.cell 1
    have d2 : w11.cell? ⟨w10.heap.size, 2, none⟩ = some (.bool df) := BX11.out.cell 2
    have d3 : w11.cell? ⟨w10.heap.size, 3, none⟩ = some (.bool mf) := BX11.out.cell 3
    have d4 : w11.cell? ⟨w10.heap.size, 4, none⟩ = some (.int .i64 fr) := BX11.out.cell 4
    have d5 : w11.cell? ⟨w10.heap.size, 5, none⟩ = some (.int .i64 ttl) := BX11.out.cell 5
    have d6 : w11.cell? ⟨w10.heap.size, 6, none⟩ = some (.int .i64 pr) := BX11.out.cell 6
    have d7 : w11.cell? ⟨w10.heap.size, 7, none⟩ = some (.bool false) := BX11.out.cell 7
    have d8 : w11.cell? ⟨w10.heap.size, 8, none⟩ = some (.int .u64 0) := BX11.out.cell 8
    have d9 : w11.cell? ⟨w10.heap.size, 9, none⟩ = some (.int .u64 sl) := BX11.out.cell 9
    have d10 : w11.cell? ⟨w10.heap.size, 10, none⟩ = some (.bool false) := BX11.out.cell 10
    have d11 : w11.cell? ⟨w10.heap.size, 11, none⟩ = some (.int .u64 0) := BX11.out.cell 11
    have d12 : w11.cell? ⟨w10.heap.size, 12, none⟩ = some (.int .u64 dl) := BX11.out.cell 12
    have d13 : w11.cell? ⟨w10.heap.size, 13, none⟩ = some (.slice AQ no cq) := BX11.out.cell 13
    have o0 : w11.cell? ⟨w.heap.size, 0, none⟩ = some (.int .i64 tos) := (HB11.out.cell (p := ⟨w.heap.size, 0, none⟩) (Nat.lt_succ_self _)).trans (BOX.out.cell 0)
    have o1 : w11.cell? ⟨w.heap.size, 1, none⟩ = some (.int .i64 id) := (HB11.out.cell (p := ⟨w.heap.size, 1, none⟩) (Nat.lt_succ_self _)).trans (BOX.out.cell 1)
    have o2 : w11.cell? ⟨w.heap.size, 2, none⟩ = some (.bool df) := (HB11.out.cell (p := ⟨w.heap.size, 2, none⟩) (Nat.lt_succ_self _)).trans (BOX.out.cell 2)
    have o3 : w11.cell? ⟨w.heap.size, 3, none⟩ = some (.bool mf) := (HB11.out.cell (p := ⟨w.heap.size, 3, none⟩) (Nat.lt_succ_self _)).trans (BOX.out.cell 3)
    have o4 : w11.cell? ⟨w.heap.size, 4, none⟩ = some (.int .i64 fr) := (HB11.out.cell (p := ⟨w.heap.size, 4, none⟩) (Nat.lt_succ_self _)).trans (BOX.out.cell 4)
    have o5 : w11.cell? ⟨w.heap.size, 5, none⟩ = some (.int .i64 ttl) := (HB11.out.cell (p := ⟨w.heap.size, 5, none⟩) (Nat.lt_succ_self _)).trans (BOX.out.cell 5)
    have o6 : w11.cell? ⟨w.heap.size, 6, none⟩ = some (.int .i64 pr) := (HB11.out.cell (p := ⟨w.heap.size, 6, none⟩) (Nat.lt_succ_self _)).trans (BOX.out.cell 6)
    have o7 : w11.cell? ⟨w.heap.size, 7, none⟩ = some (.bool false) := (HB11.out.cell (p := ⟨w.heap.size, 7, none⟩) (Nat.lt_succ_self _)).trans (BOX.out.cell 7)
    have o8 : w11.cell? ⟨w.heap.size, 8, none⟩ = some (.int .u64 0) := (HB11.out.cell (p := ⟨w.heap.size, 8, none⟩) (Nat.lt_succ_self _)).trans (BOX.out.cell 8)
    have o9 : w11.cell? ⟨w.heap.size, 9, none⟩ = some (.int .u64 sl) := (HB11.out.cell (p := ⟨w.heap.size, 9, none⟩) (Nat.lt_succ_self _)).trans (BOX.out.cell 9)
    have o10 : w11.cell? ⟨w.heap.size, 10, none⟩ = some (.bool false) := (HB11.out.cell (p := ⟨w.heap.size, 10, none⟩) (Nat.lt_succ_self _)).trans (BOX.out.cell 10)
    have o11 : w11.cell? ⟨w.heap.size, 11, none⟩ = some (.int .u64 0) := (HB11.out.cell (p := ⟨w.heap.size, 11, none⟩) (Nat.lt_succ_self _)).trans (BOX.out.cell 11)
    have o12 : w11.cell? ⟨w.heap.size, 12, none⟩ = some (.int .u64 dl) := (HB11.out.cell (p := ⟨w.heap.size, 12, none⟩) (Nat.lt_succ_self _)).trans (BOX.out.cell 12)
    have o13 : w11.cell? ⟨w.heap.size, 13, none⟩ = some (.slice AO no co) := (HB11.out.cell (p := ⟨w.heap.size, 13, none⟩) (Nat.lt_succ_self _)).trans (BOX.out.cell 13)
    go_wp2_with fail
    clear o0 o1 o2 o3 o4 o5 o6 o7 o8 o9 o10 o11 o12 o13 d0 d1 d2 d3 d4 d5 d6 d7 d8 d9 d10 d11 d12 d13
    refine HS2X.out.mono ?_
    rintro e w12 ⟨rfl, hb12⟩
    have HBW12 := Lib.hid (bel_call HBW11.out hb12)
    have cv1 := conv_any (n := n1) (c := cr) (RR3.out.below hb12) L1.out
    have cv2 := conv_any (n := n1) (c := cs) (RS3.out.below hb12) L1.out
    have cv3 := conv_any (n := n1) (c := c1) (R1.out.below HBW12.out) L1.out
    clear hb12
    go_wp2_with fail
    refine (HAW.out _).mono ?_
    rintro e w13 ⟨rfl, hb13⟩
    go_wp2_with fail
    go_ret
    exact ⟨rfl, bel_call HBW12.out hb13⟩
end Go.Proofs.Ytgikoljnmmnkkaa.fourI
