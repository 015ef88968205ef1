/- Layer 16: a nil tree, and the law of TreeNobody. -/
import Derived.Test.YtndlgdjkldnfiaaTreJ
import Derived.Test.YtndlgdjkldnfiaaShelf
namespace Go.Proofs.Ytndlgdjkldnfiaa.treL
open Go.ChangeShapes Go.WideShapes Go.ChangeAt Go.RowKit
open Go.Proofs.Ytndlgdjkldnfiaa.base Go.Proofs.Ytndlgdjkldnfiaa.dfA Go.Proofs.Ytndlgdjkldnfiaa.treB Go.Proofs.Ytndlgdjkldnfiaa.treD Go.Proofs.Ytndlgdjkldnfiaa.treJ
set_option linter.unusedVariables false

set_option maxHeartbeats 2000000 in
theorem nodes_none (w : World) : Calls Try.prog 15 #[.pointer none] w fun o w' => o = .returned (.slice none 0 0) ∧ Below w.heap.size w w' := by
  have HB := Lib.hid (Below.refl w.heap.size w)
  go_enter Try.func15, Try.ntmps15
  go_wp2_with fail
  go_ret
  exact ⟨rfl, HB.out⟩
set_option maxHeartbeats 2000000 in
theorem find_none (s : ByteArray) (w : World) : Calls Try.prog 20 #[.pointer none, .string s] w fun o w' => o = .returned (.int .i64 (-1)) ∧ Below w.heap.size w w' := by
  have HB := Lib.hid ((Below.refl w.heap.size w).alloc (Nat.le_refl _) (.cells #[.string s] 9))
  go_enter Try.func20, Try.ntmps20
  go_wp2_with fail
  go_ret
  exact ⟨rfl, HB.out⟩
set_option maxHeartbeats 2000000 in
theorem kids_none (i : Int) (w : World) : Calls Try.prog 16 #[.pointer none, .int .i64 i] w fun o w' => o = .returned (.slice none 0 0) ∧ Below w.heap.size w w' := by
  have HI := Lib.hid (is_none i w)
  go_enter Try.func16, Try.ntmps16
  go_wp2_with fail
  refine HI.out.mono ?_
  rintro o w1 ⟨rfl, hb⟩
  have HB := Lib.hid hb
  clear hb
  go_wp2_with fail
  go_ret
  exact ⟨rfl, HB.out⟩
set_option maxHeartbeats 2000000 in
theorem up_none (i k : Int) (w : World) : Calls Try.prog 21 #[.pointer none, .int .i64 i, .int .i64 k] w fun o w' => o = .returned (.int .i64 (-1)) ∧ Below w.heap.size w w' := by
  have HI := Lib.hid (is_none i w)
  go_enter Try.func21, Try.ntmps21
  go_wp2_with fail
  go_loopw [1] (fun i' wr => i' = .int .i64 i ∧ wr = w) (fun _ _ => 0)
  case atStart => exact ⟨rfl, rfl⟩
  case round =>
    obtain ⟨rfl, rfl⟩ := hrel
    go_wp2_with fail
    refine HI.out.mono ?_
    rintro o w1 ⟨rfl, hb⟩
    have HB := Lib.hid hb
    clear hb
    go_wp2_with fail
    go_ret
    exact ⟨rfl, HB.out⟩
set_option maxHeartbeats 2000000 in
theorem ofKind_none (k : Int) (w : World) : Calls Try.prog 32 #[.pointer none, .int .i64 k] w fun o w' => o = .returned (.slice (some ⟨w.heap.size, 0, none⟩) 0 0) ∧ Below w.heap.size w w' := by
  have BE := Lib.hid ((Below.refl w.heap.size w).alloc (Nat.le_refl _) (.cells #[] 3))
  have HL := Lib.hid (len_none (w.alloc (.cells #[] 3)))
  go_enter Try.func32, Try.ntmps32
  go_wp2_with fail
  refine HL.out.mono ?_
  rintro o w1 ⟨rfl, hb⟩
  have HB := Lib.hid (BE.out.trans (hb.mono BE.out.size))
  clear hb
  go_wp2_with fail
  go_loopw [5, 10] (fun out i wr => out = .slice (some ⟨w.heap.size, 0, none⟩) 0 0 ∧ i = .int .i64 0 ∧ wr = w1) (fun _ _ _ => 0)
  case atStart => exact ⟨rfl, rfl, rfl⟩
  case round =>
    obtain ⟨rfl, rfl, rfl⟩ := hrel
    go_wp2_with fail
    go_ret
    exact ⟨rfl, HB.out⟩
set_option maxHeartbeats 2000000 in
theorem levels_none (w : World) : Calls Try.prog 17 #[.pointer none] w fun o w' => o = .returned (.slice (some ⟨w.heap.size, 0, none⟩) 0 0) ∧ Below w.heap.size w w' := by
  have HI := Lib.hid (ofKind_none 1 w)
  go_enter Try.func17, Try.ntmps17
  go_wp2_with fail
  refine HI.out.mono ?_
  rintro o w1 ⟨rfl, hb⟩
  have HB := Lib.hid hb
  clear hb
  go_wp2_with fail
  go_ret
  exact ⟨rfl, HB.out⟩
set_option maxHeartbeats 2000000 in
theorem hosts_none (w : World) : Calls Try.prog 18 #[.pointer none] w fun o w' => o = .returned (.slice (some ⟨w.heap.size, 0, none⟩) 0 0) ∧ Below w.heap.size w w' := by
  have HI := Lib.hid (ofKind_none 4 w)
  go_enter Try.func18, Try.ntmps18
  go_wp2_with fail
  refine HI.out.mono ?_
  rintro o w1 ⟨rfl, hb⟩
  have HB := Lib.hid hb
  clear hb
  go_wp2_with fail
  go_ret
  exact ⟨rfl, HB.out⟩
set_option maxHeartbeats 2000000 in
theorem below_none (i : Int) (w : World) : Calls Try.prog 19 #[.pointer none, .int .i64 i] w fun o w' => o = .returned (.slice none 0 0) ∧ Below w.heap.size w w' := by
  have B1 := Lib.hid (((Below.refl w.heap.size w).alloc (Nat.le_refl _) (.cells #[.pointer none] 24)).alloc (by simp) (.cells #[.int .i64 i] 3))
  have HI := Lib.hid (fun W => node_none i W)
  have hfd : ∀ W, (Instr.field 34 (.agg #[.string ByteArray.empty, .int .i64 0, .int .i64 0, .int .i64 0, .bool false, .int .u64 0, .int .u64 0]) 1).run Try.prog W = .ok (.int .i64 0) W := fun _ => by kernel_rfl
  have HD := Lib.hid (Blk.new w 24 #[.pointer none])
  have HD1 := Lib.hid (HD.out.alloc (.cells #[.int .i64 i] 3))
  have HD2 := Lib.hid (show Blk ((w.alloc (.cells #[.pointer none] 24)).alloc (.cells #[.int .i64 i] 3)) (w.heap.size + 1) 3 #[.int .i64 i] from by
    have := Blk.new (w.alloc (.cells #[.pointer none] 24)) 3 #[.int .i64 i]
    simpa using this)
  have c0 : ((w.alloc (.cells #[.pointer none] 24)).alloc (.cells #[.int .i64 i] 3)).cell? ⟨w.heap.size, 0, none⟩ = some (.pointer none) := HD1.out.cell 0
  have c1 : ((w.alloc (.cells #[.pointer none] 24)).alloc (.cells #[.int .i64 i] 3)).cell? ⟨w.heap.size + 1, 0, none⟩ = some (.int .i64 i) := HD2.out.cell 0
  go_enter Try.func19, Try.ntmps19
  go_wp2_with fail
  refine (HI.out _).mono ?_
  rintro o w1 ⟨rfl, hb⟩
  have B2 := Lib.hid (B1.out.trans (hb.mono B1.out.size))
  have HB := Lib.hid (B2.out.alloc B2.out.size (.cells #[.int .i64 0] 3))
  clear hb c0 c1
  unfold zNd Nd.cells
  dsimp only
  go_wp2_with fail
  go_ret
  exact ⟨rfl, HB.out⟩
set_option maxHeartbeats 2000000 in
theorem level_none (i : Int) (w : World) : Calls Try.prog 22 #[.pointer none, .int .i64 i] w fun o w' => o = .returned (.int .i64 (-1)) ∧ Below w.heap.size w w' := by
  have HL := Lib.hid (levels_none w)
  have HU := Lib.hid (fun W => up_none i 1 W)
  have HX := Lib.hid (fun (a : Option Addr) (c : Nat) (x : Int) W => Go.Proofs.Try.slices_Index_int_empty a c x W)
  go_enter Try.func22, Try.ntmps22
  go_wp2_with fail
  refine HL.out.mono ?_
  rintro o w1 ⟨rfl, hb⟩
  have B1 := Lib.hid hb
  clear hb
  go_wp2_with fail
  refine (HU.out w1).mono ?_
  rintro o w2 ⟨rfl, hb⟩
  have HB := Lib.hid (B1.out.trans (hb.mono B1.out.size))
  clear hb
  go_wp2_with fail
  refine (HX.out _ _ _ _).mono ?_
  rintro o w3 ⟨rfl, rfl⟩
  rw [show Lib.idxOf [] (-1 : Int) = -1 from rfl]
  go_wp2_with fail
  go_ret
  exact ⟨rfl, HB.out⟩
set_option maxRecDepth 100000 in
set_option maxHeartbeats 8000000 in
theorem nobody_any (i : Int) (s : ByteArray) (w : World) : Calls Try.prog 4 #[.int .i64 i, .string s] w fun o w' => o = .returned (.bool true) ∧ Below w.heap.size w w' := by
  have H0 := Lib.hid (fun W => len_none W)
  have H1 := Lib.hid (fun W => node_none i W)
  have H2 := Lib.hid (fun W => nodes_none W)
  have H3 := Lib.hid (fun W => kids_none i W)
  have H4 := Lib.hid (fun W => levels_none W)
  have H5 := Lib.hid (fun W => hosts_none W)
  have H6 := Lib.hid (fun W => below_none i W)
  have H7 := Lib.hid (fun W => find_none s W)
  have H8 := Lib.hid (fun W => up_none i 1 W)
  have H9 := Lib.hid (fun W => level_none i W)
  have H10 := Lib.hid (fun W => awake_any W)
  have B := Lib.hid (Below.refl w.heap.size w)
  go_enter Try.func4, Try.ntmps4
  go_wp2_with fail
  refine (H0.out _).mono ?_
  rintro o w0 ⟨rfl, hb⟩
  have B := Lib.hid (B.out.trans (hb.mono B.out.size))
  clear hb
  go_wp2_with fail
  refine (H1.out _).mono ?_
  rintro o w1 ⟨rfl, hb⟩
  have B := Lib.hid (B.out.trans (hb.mono B.out.size))
  clear hb
  unfold zNd Nd.cells
  dsimp only
  go_wp2_with fail
  refine (H2.out _).mono ?_
  rintro o w2 ⟨rfl, hb⟩
  have B := Lib.hid (B.out.trans (hb.mono B.out.size))
  clear hb
  go_wp2_with fail
  refine (H3.out _).mono ?_
  rintro o w3 ⟨rfl, hb⟩
  have B := Lib.hid (B.out.trans (hb.mono B.out.size))
  clear hb
  go_wp2_with fail
  refine (H4.out _).mono ?_
  rintro o w4 ⟨rfl, hb⟩
  have B := Lib.hid (B.out.trans (hb.mono B.out.size))
  clear hb
  go_wp2_with fail
  refine (H5.out _).mono ?_
  rintro o w5 ⟨rfl, hb⟩
  have B := Lib.hid (B.out.trans (hb.mono B.out.size))
  clear hb
  go_wp2_with fail
  refine (H6.out _).mono ?_
  rintro o w6 ⟨rfl, hb⟩
  have B := Lib.hid (B.out.trans (hb.mono B.out.size))
  clear hb
  go_wp2_with fail
  refine (H7.out _).mono ?_
  rintro o w7 ⟨rfl, hb⟩
  have B := Lib.hid (B.out.trans (hb.mono B.out.size))
  clear hb
  go_wp2_with fail
  refine (H8.out _).mono ?_
  rintro o w8 ⟨rfl, hb⟩
  have B := Lib.hid (B.out.trans (hb.mono B.out.size))
  clear hb
  go_wp2_with fail
  refine (H9.out _).mono ?_
  rintro o w9 ⟨rfl, hb⟩
  have B := Lib.hid (B.out.trans (hb.mono B.out.size))
  clear hb
  go_wp2_with fail
  refine (H10.out _).mono ?_
  rintro o w10 ⟨rfl, hb⟩
  have B := Lib.hid (B.out.trans (hb.mono B.out.size))
  clear hb
  go_wp2_with fail
  go_ret
  exact ⟨rfl, B.out⟩
end Go.Proofs.Ytndlgdjkldnfiaa.treL
