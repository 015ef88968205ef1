/- 9 texts in one. -/
import Derived.Test.YtoaboklckkcjcaaGreatRows
import Derived.WalkKit
import Derived.ProofKit
import Derived.OpenShut
import Derived.Below
import Derived.ChangeSame
import Derived.Lib.Hide
import Derived.Deep.Draws
import Derived.Laws.AppendOwn
import Derived.Laws.OwnMore
import Derived.Laws.Rows
import Derived.Tactics
import Derived.Tactics2
import Derived.Defers
import Derived.Laws.Pointers
import Derived.Laws.LoneSync
import Derived.RegionTactic
import Derived.RegionCalls
import Derived.ChangeAlike
import Derived.Shelf.Small.Bits
import Derived.Shelf.Strconv.Itoa0
import Derived.Shelf.Bits.Mul64
import Derived.Shelf.Slices.Turned
import Derived.Ground.Names2Prog
import Derived.Shelf.Slices.Clone
import Derived.Ground.SlgnProg
import Derived.Shelf.SlicesE.Clone
import Derived.Ground.SlgfProg
import Derived.Shelf.SlicesE.IndexFunc
import Derived.Shelf.SlicesE.DeleteFunc
import Derived.Test.YtoaboklckkcjcaaGreatProg
import Derived.Laws.MakeOwn
import Derived.Deep.RegionHeld3
import Derived.IntWalk
/- Small lemmas that all texts use. -/
namespace Go.Proofs.YtoaboklckkcjcaaGreat.base
open Go.RowKit Go.WideShapes Go.ChangeShapes
set_option linter.unusedVariables false

section
variable {H : Type} {enc : TypeId × Value → H} {P : Program}
theorem post_of_below {f : Func} {s : ChangeSpec} {apart fresh handsOn again : Bool} {W W' : World} {args : Array Value} {v : Value} {ds gs : List (DataW H)} {before pa pv : List MemPlace}
    (hW : DataW.Whole enc P f.params.toList s.vars apart W args.toList ds gs before)
    (hres : ∀ (b : Nat) (sp : Nat → Bool) (hd : Bool), DataW.TrodAll enc P W' b sp hd f.resultTypes.toList (v.resultList f.resultTypes.size) (s.fn H (ds ++ gs)).results [])
    (hargs : ∀ sp : Nat → Bool, (∀ p ∈ before, sp p.block = true) → DataW.TrodAll enc P W' 0 sp true f.params.toList args.toList (s.fn H (ds ++ gs)).args pa)
    (hvars : ∀ sp : Nat → Bool, (∀ p ∈ before, sp p.block = true) → DataW.TrodVars enc P W' sp s.vars (s.fn H (ds ++ gs)).vars pv)
    (hps : before = pa ++ pv) (hb : Below W.heap.size W W')
    (hok : ∀ (j : Nat) (t : TypeId) (r : Value), f.resultTypes[j]? = some t → (v.resultList f.resultTypes.size)[j]? = some r → Value.okWide P W' .any 0 t r) :
    s.post enc P f apart fresh handsOn again W args v W' := by
  have hlt : ∀ p ∈ before, p.block < W.heap.size := fun p hp => hW.lt p hp
  have hold : ∀ p ∈ before, (fun b => decide (b < W.heap.size)) p.block = true := fun p hp => by simpa using hlt p hp
  refine ⟨ds, gs, before, [], pa, pv, hW, hres _ _ _, hargs _ hold, hvars _ hold, World.keptBut_mono (fun p hp => ⟨hp, ?_⟩) (hb.frame (· ∈ before)), fun _ => ?_⟩
  · rw [hps, List.mem_append] at hp
    exact Or.inr hp
  · obtain ⟨_, _, _, _, _, hz, hn⟩ := hW
    refine ⟨hok, _, _, ([] ++ pa) ++ pv, ⟨[] ++ pa, pv, trodAll_append (hargs _ (fun _ _ => rfl)) (hres _ _ _), hvars _ (fun _ _ => rfl), rfl, ?_, ?_⟩, ?_⟩
    · intro b off hp
      have hin : MemPlace.cell b off ∈ before := by rw [hps]; simpa using hp
      rw [hb.frozen (hlt _ hin)]
      exact hz b off hin
    · intro ha
      have := hn ha
      rw [hps] at this
      simpa using this
    · intro p hp _
      rw [hps]
      simpa using hp
end
theorem ret_int {k : IntKind} {a b : Int} (h : a = b) : Ending.returned (.int k a) = .returned (.int k b) := by rw [h]
theorem ret_bool {a b : Bool} (h : a = b) : Ending.returned (.bool a) = .returned (.bool b) := by rw [h]
theorem below_drewN {B : Nat} {a w : World} (h : Below B a w) (n : Nat) : Below B a (w.drewN n) := ⟨h.os, h.tape, h.output, h.size, h.block⟩
/-- Block g is just the cells cs of element type t, none frozen. -/
def Blk (w : World) (g : Nat) (t : TypeId) (cs : Array Value) : Prop := w.heap[g]? = some (.cells cs t (0, 0))
section
variable {w w' : World} {g : Nat} {t : TypeId} {cs : Array Value}
theorem Blk.lt (h : Blk w g t cs) : g < w.heap.size := by
  rcases Nat.lt_or_ge g w.heap.size with hlt | hge
  · exact hlt
  · unfold Blk at h; rw [Array.getElem?_eq_none hge] at h; cases h
theorem Blk.cell (h : Blk w g t cs) (i : Nat) : w.cell? ⟨g, i, none⟩ = cs[i]? := cell_of_row w g i cs t (0, 0) h
theorem Blk.frozen (h : Blk w g t cs) (i : Nat) : w.frozen? ⟨g, i, none⟩ = false := by
  unfold Blk at h
  simp [World.frozen?, h]
theorem Blk.new (w : World) (t : TypeId) (cs : Array Value) : Blk (w.alloc (.cells cs t)) w.heap.size t cs := heap_alloc_new w _
theorem Blk.drew (h : Blk w g t cs) : Blk w.drew g t cs := h
theorem Blk.drewN (h : Blk w g t cs) (n : Nat) : Blk (w.drewN n) g t cs := h
theorem Blk.alloc (h : Blk w g t cs) (o : Obj) : Blk (w.alloc o) g t cs := (Below.heap_alloc w o g h.lt).trans h
theorem Blk.set_ (h : Blk w g t cs) (i : Nat) (u : Value) : Blk (w.setCell ⟨g, i, none⟩ u) g t (cs.setIfInBounds i u) := by
  unfold Blk at h ⊢
  simp [World.setCell, Array.getElem?_modify, h]
theorem Blk.far (h : Blk w g t cs) {p : Addr} (hp : g ≠ p.block) (u : Value) : Blk (w.setCell p u) g t cs := (Below.heap_setCell w p u g hp).trans h
theorem Blk.below {B : Nat} (h : Blk w g t cs) (hb : Below B w w') (hg : g < B) : Blk w' g t cs := (hb.block g hg).trans h
theorem Blk.grown {row : Option Nat} (h : Blk w g t cs) (hb : w.grownBy w' row) (hg : some g ≠ row) : Blk w' g t cs := (hb.block g h.lt hg).trans h
end
end Go.Proofs.YtoaboklckkcjcaaGreat.base
/- sync.Once in one goroutine: its parts. -/
namespace Go.Proofs.YtoaboklckkcjcaaGreat.onceA
open Go.ChangeShapes Go.WideShapes Go.ChangeAt Go.RowKit
open Go.Proofs.YtoaboklckkcjcaaGreat.base
set_option linter.unusedVariables false

theorem disable (w : World) : (callFunc 126 #[]).run Tryz.prog w = .ok (.value (.tuple #[])) w := run_call_mark0 Tryz.func126 (by kernel_rfl) (by kernel_rfl) (by kernel_rfl) .disable (by kernel_rfl) w
theorem enable (w : World) : (callFunc 128 #[]).run Tryz.prog w = .ok (.value (.tuple #[])) w := run_call_mark0 Tryz.func128 (by kernel_rfl) (by kernel_rfl) (by kernel_rfl) .enable (by kernel_rfl) w
theorem acquire (a : Addr) (w : World) : (callFunc 129 #[.pointer (some a)]).run Tryz.prog w = .ok (.value (.tuple #[])) w := run_call_marked Tryz.func129 (by kernel_rfl) (by kernel_rfl) (by kernel_rfl) .acquire (by kernel_rfl) a w
theorem releaseMerge (a : Addr) (w : World) : (callFunc 131 #[.pointer (some a)]).run Tryz.prog w = .ok (.value (.tuple #[])) w := run_call_marked Tryz.func131 (by kernel_rfl) (by kernel_rfl) (by kernel_rfl) .releaseMerge (by kernel_rfl) a w
theorem b32_true (w : World) : Calls Tryz.prog 124 #[.bool true] w fun e w' => e = .returned (.int .u32 1) ∧ w = w' := by
  go_enter Tryz.func124, Tryz.ntmps124
  go_wp2
  go_ret
  exact ⟨rfl, rfl⟩
/-- '(*sync/atomic.Bool).Store(true)', entered as a deferred call: the cell holds 1. -/
theorem store_deferred (a : Addr) (x : Value) (u : FrameMode) (w : World) (hc : w.cell? a = some x) (hz : w.frozen? a = false) :
    CallsD Tryz.prog 118 #[.pointer (some a), .bool true] u w fun e u' w' => u' = u ∧ (e = .returned (.tuple #[]) ∧ w' = w.drew.setCell a (.int .u32 1)) := by
  have hc' : w.drew.cell? a = some x := by go_simp
  have hz' : w.drew.frozen? a = false := by go_simp
  have hst := run_call_store (P := Tryz.prog) Tryz.func123 (by kernel_rfl) (by kernel_rfl) (by kernel_rfl) (by kernel_rfl) (k := .u32) (y := 1) hc' hz'
  go_enter_d Tryz.func118, Tryz.ntmps118
  go_wp2
  go_region_calls
  all_goals (go_end0; exact ⟨rfl, rfl⟩)
set_option maxRecDepth 100000 in
theorem unlock_in (a : Addr) (w : World) (hc : w.cell? a = some (.int .i32 1)) (hz : w.frozen? a = false) :
    Calls Tryz.prog 122 #[.pointer (some a)] w fun e w' => e = .returned (.tuple #[]) ∧ w' = w.setCell a (.int .i32 0) := by
  have hd := disable
  have he := enable
  have hr := releaseMerge
  have hadd := run_call_add (P := Tryz.prog) Tryz.func132 (by kernel_rfl) (by kernel_rfl) (by kernel_rfl) .i32 (by kernel_rfl) (y := -1) (s := 0) hc hz (by simp [go_sem]; rfl)
  have hcv := run_convert_to_unsafe (P := Tryz.prog) (src := 168) (dst := 172) Tryz.underlying168 Tryz.underlying172 (by kernel_rfl) hc
  go_enter Tryz.func122, Tryz.ntmps122
  go_wp2
  go_end0
  exact ⟨rfl, rfl⟩
theorem unlock_deferred (a : Addr) (u : FrameMode) (w : World) (hc : w.cell? a = some (.int .i32 1)) (hz : w.frozen? a = false) :
    CallsD Tryz.prog 117 #[.pointer (some a)] u w fun e u' w' => u' = u ∧ (e = .returned (.tuple #[]) ∧ w' = w.setCell a (.int .i32 0)) := by
  go_enter_d Tryz.func117, Tryz.ntmps117
  go_wp2_with (go_at_call 122; refine (unlock_in a _ hc hz).mono ?_; rintro e w' ⟨rfl, rfl⟩)
  go_end0
  exact ⟨rfl, rfl⟩
set_option maxRecDepth 100000 in
theorem lock_in (a : Addr) (w : World) (hc : w.cell? a = some (.int .i32 0)) (hz : w.frozen? a = false) :
    Calls Tryz.prog 121 #[.pointer (some a)] w fun e w' => e = .returned (.tuple #[]) ∧ w' = w.setCell a (.int .i32 1) := by
  have hd := disable
  have he := enable
  have ha := acquire
  have hcas := run_call_cas_hit (P := Tryz.prog) Tryz.func127 (by kernel_rfl) (by kernel_rfl) (by kernel_rfl) .i32 (by kernel_rfl) (y := 1) hc hz
  have hc' : (w.setCell a (.int .i32 1)).cell? a = some (.int .i32 1) := World.cell?_setCell_same w a _ hc
  have hcv := run_convert_to_unsafe (P := Tryz.prog) (src := 168) (dst := 172) Tryz.underlying168 Tryz.underlying172 (by kernel_rfl) hc'
  go_enter Tryz.func121, Tryz.ntmps121
  go_wp2
  first | go_end0 | (simp only [Exit.inBlock, Exit.then]; refine bodyPost_ret (results_none rfl _ _ _) rfl ?_) | refine bodyPost_ret (results_none rfl _ _ _) rfl ?_
  exact ⟨rfl, rfl⟩
theorem lock_free (a : Addr) (w : World) (hc : w.cell? a = some (.int .i32 0)) (hz : w.frozen? a = false) :
    Calls Tryz.prog 116 #[.pointer (some a)] w fun e w' => e = .returned (.tuple #[]) ∧ w' = w.setCell a (.int .i32 1) := by
  go_enter Tryz.func116, Tryz.ntmps116
  go_wp2_with (go_at_call 121; refine (lock_in a _ hc hz).mono ?_; rintro e w' ⟨rfl, rfl⟩)
  go_end0
  exact ⟨rfl, rfl⟩
theorem loadBool (a : Addr) (d : Int) (w : World) (h0 : w.cell? a = some (.int .u32 d)) :
    Calls Tryz.prog 111 #[.pointer (some a)] w fun e w' => e = .returned (.bool (d != 0)) ∧ w = w' := by
  have hl := run_call_load (P := Tryz.prog) Tryz.func115 (by kernel_rfl) (by kernel_rfl) (by kernel_rfl) .u32 (by kernel_rfl) h0
  go_enter Tryz.func111, Tryz.ntmps111
  go_wp2
  go_ret
  exact ⟨rfl, rfl⟩
end Go.Proofs.YtoaboklckkcjcaaGreat.onceA
/-
  DERIVED: THE SHELF's CONTRACTS AT THIS DUMP, IN PLAIN WORDS (tools/lay-plain.mjs out of 'TryzShelf.lean', which tools/lay-shelf.mjs wrote): THE SAME DECLARATIONS UNDER THE SAME NAMES: 'import', 'namespace', 'open', 'def', 'theorem' AND NOTHING ELSE: no command of the shelf's: FOR A HAND-IN. Each laying: the table of numbers ('.._ren') and one theorem, a field a fact of the dump's own or the kernel's comparison; each contract: ONE APPLICATION.
-/
namespace Go.Proofs
open Go.Shelf
def Tryz.lays134_ren : Go.Shelf.Ren := ⟨fun | 134 => 120 | 129 => 125 | n => n, fun | 53 => 24 | 3 => 3 | 4 => 4 | 46 => 131 | 5 => 5 | 9 => 9 | n => n, fun | n => n⟩
theorem Tryz.lays134 : Go.Proofs.Lays.n134 Tryz.prog Tryz.lays134_ren := {
  mixed := by kernel_rfl
  f129 := Tryz.func125.trans (congrArg some (by kernel_rfl))
  f134 := Tryz.func120.trans (congrArg some (by kernel_rfl))
  t3 := Tryz.underlying3
  a3 := Tryz.isAgg3
  z3 := Tryz.sizeOf3
  v3 := Tryz.zeroValue3
  t4 := Tryz.underlying4
  a4 := Tryz.isAgg4
  z4 := Tryz.sizeOf4
  v4 := Tryz.zeroValue4
  t5 := Tryz.underlying5
  a5 := Tryz.isAgg5
  z5 := Tryz.sizeOf5
  v5 := Tryz.zeroValue5
  t9 := Tryz.underlying9
  a9 := Tryz.isAgg9
  z9 := Tryz.sizeOf9
  v9 := Tryz.zeroValue9
  t46 := Tryz.underlying131
  a46 := Tryz.isAgg131
  z46 := Tryz.sizeOf131
  v46 := Tryz.zeroValue131
  t53 := Tryz.underlying24
  a53 := Tryz.isAgg24
  z53 := Tryz.sizeOf24
  v53 := Tryz.zeroValue24 }
/-- bits.LeadingZeros64: "LeadingZeros64 returns the number of leading zero bits in x; the result is 64 for x == 0.": IT RETURNS '64 - Lib.bitLen x'; the world is as it was. ITS CALLEE bits.Len64 IS MET BY ITS OWN CONTRACT OFF THE SHELF (lay that first): entered in place it sends the kernel out of memory. (LAID: no walk: one application.) -/
theorem Tryz.bits_LeadingZeros64 (x : Int) (w : World) (h0 : 0 ≤ x) (h1 : x ≤ 18446744073709551615) :
    Calls Tryz.prog 120 #[.int .u64 x] w fun e w' => e = .returned (.int .i64 (64 - (Lib.bitLen x.toNat : Int))) ∧ w' = w := Any.bits_LeadingZeros64 Tryz.lays134 x w h0 h1
def Tryz.lays129_ren : Go.Shelf.Ren := ⟨fun | 129 => 125 | n => n, fun | 53 => 24 | 3 => 3 | 4 => 4 | 46 => 131 | 5 => 5 | 9 => 9 | n => n, fun | n => n⟩
theorem Tryz.lays129 : Go.Proofs.Lays.n129 Tryz.prog Tryz.lays129_ren := {
  mixed := by kernel_rfl
  f129 := Tryz.func125.trans (congrArg some (by kernel_rfl))
  t3 := Tryz.underlying3
  a3 := Tryz.isAgg3
  z3 := Tryz.sizeOf3
  v3 := Tryz.zeroValue3
  t4 := Tryz.underlying4
  a4 := Tryz.isAgg4
  z4 := Tryz.sizeOf4
  v4 := Tryz.zeroValue4
  t5 := Tryz.underlying5
  a5 := Tryz.isAgg5
  z5 := Tryz.sizeOf5
  v5 := Tryz.zeroValue5
  t9 := Tryz.underlying9
  a9 := Tryz.isAgg9
  z9 := Tryz.sizeOf9
  v9 := Tryz.zeroValue9
  t46 := Tryz.underlying131
  a46 := Tryz.isAgg131
  z46 := Tryz.sizeOf131
  v46 := Tryz.zeroValue131
  t53 := Tryz.underlying24
  a53 := Tryz.isAgg24
  z53 := Tryz.sizeOf24
  v53 := Tryz.zeroValue24 }
/-- bits.Len64: "Len64 returns the minimum number of bits required to represent x; the result is 0 for x == 0.": IT RETURNS 'Lib.bitLen x'; the world is as it was. ('h0', 'h1': x is a uint64.) (LAID: no walk: one application.) -/
theorem Tryz.bits_Len64 (x : Int) (w : World) (h0 : 0 ≤ x) (h1 : x ≤ 18446744073709551615) :
    Calls Tryz.prog 125 #[.int .u64 x] w fun e w' => e = .returned (.int .i64 (Lib.bitLen x.toNat)) ∧ w' = w := Any.bits_Len64 Tryz.lays129 x w h0 h1
def Tryz.lays264_ren : Go.Shelf.Ren := ⟨fun | 264 => 78 | n => n, fun | 53 => 24 | 46 => 131 | n => n, fun | n => n⟩
theorem Tryz.lays264 : Go.Proofs.Lays.n264 Tryz.prog Tryz.lays264_ren := {
  mixed := by kernel_rfl
  f264 := Tryz.func78.trans (congrArg some (by kernel_rfl))
  t46 := Tryz.underlying131
  a46 := Tryz.isAgg131
  z46 := Tryz.sizeOf131
  v46 := Tryz.zeroValue131
  t53 := Tryz.underlying24
  a53 := Tryz.isAgg24
  z53 := Tryz.sizeOf24
  v53 := Tryz.zeroValue24 }
open Go.RowKit Go.Lib in
theorem Tryz.bits_Mul64 (x y : Nat) (hx : x < 18446744073709551616) (hy : y < 18446744073709551616) (w : World) :
    Calls Tryz.prog 78 #[.int .u64 x, .int .u64 y] w fun e w' => e = .returned (.tuple #[.int .u64 ((x * y / 18446744073709551616 : Nat) : Int), .int .u64 ((x * y % 18446744073709551616 : Nat) : Int)]) ∧ w' = w := Any.bits_Mul64 Tryz.lays264 x y hx hy w
def Tryz.lays108_ren : Go.Shelf.Ren := ⟨fun | 108 => 60 | n => n, fun | 28 => 23 | 3 => 3 | 0 => 0 | 4 => 4 | n => n, fun | n => n⟩
theorem Tryz.lays108 : Go.Proofs.Lays.n108 Tryz.prog Tryz.lays108_ren := {
  mixed := by kernel_rfl
  f108 := Tryz.func60.trans (congrArg some (by kernel_rfl))
  t0 := Tryz.underlying0
  a0 := Tryz.isAgg0
  z0 := Tryz.sizeOf0
  v0 := Tryz.zeroValue0
  t3 := Tryz.underlying3
  a3 := Tryz.isAgg3
  z3 := Tryz.sizeOf3
  v3 := Tryz.zeroValue3
  t4 := Tryz.underlying4
  a4 := Tryz.isAgg4
  z4 := Tryz.sizeOf4
  v4 := Tryz.zeroValue4
  t28 := Tryz.underlying23
  a28 := Tryz.isAgg23
  z28 := Tryz.sizeOf23
  v28 := Tryz.zeroValue23 }
open Go.Lib in
/-- slices.Index at []int: "Index returns the index of the first occurrence of v in s, or -1 if not present.": IT RETURNS 'Lib.idxOf (the elements) v'; the world is as it was. 'zs': what the cells behind the slice's address hold (its spare capacity too, if you have it); 'zs.take n': its elements. (LAID: no walk: one application.) -/
theorem Tryz.slices_Index_int (b off n c : Nat) (zs : List Int) (x : Int) (w : World) (hz : n ≤ zs.length) (hbig : n ≤ 9223372036854775807) (hc : ∀ j, j < zs.length → w.cell? ⟨b, off + j, none⟩ = some (.int .i64 (zs.getD j 0))) :
    Calls Tryz.prog 60 #[.slice (some ⟨b, off, none⟩) n c, .int .i64 x] w fun e w' => e = .returned (.int .i64 (Lib.idxOf (zs.take n) x)) ∧ w' = w := Any.slices_Index_int Tryz.lays108 b off n c zs x w hz hbig hc
open Go.Lib in
/-- The same at a slice of length 0, a nil one too: no cell is known, none is asked for. (LAID: no walk: one application.) -/
theorem Tryz.slices_Index_int_empty (a : Option Addr) (c : Nat) (x : Int) (w : World) :
    Calls Tryz.prog 60 #[.slice a 0 c, .int .i64 x] w fun e w' => e = .returned (.int .i64 (Lib.idxOf [] x)) ∧ w' = w := Any.slices_Index_int_empty Tryz.lays108 a c x w
def Tryz.laysNm215_ren : Go.Shelf.Ren := ⟨fun | 15 => 71 | n => n, fun | 22 => 23 | 3 => 3 | 4 => 4 | n => n, fun | n => n⟩
theorem Tryz.laysNm215 : Go.Proofs.Lays2.n15 Tryz.prog Tryz.laysNm215_ren := {
  mixed := by kernel_rfl
  f15 := Tryz.func71.trans (congrArg some (by kernel_rfl))
  t3 := Tryz.underlying3
  a3 := Tryz.isAgg3
  z3 := Tryz.sizeOf3
  v3 := Tryz.zeroValue3
  t4 := Tryz.underlying4
  a4 := Tryz.isAgg4
  z4 := Tryz.sizeOf4
  v4 := Tryz.zeroValue4
  t22 := Tryz.underlying23
  a22 := Tryz.isAgg23
  z22 := Tryz.sizeOf23
  v22 := Tryz.zeroValue23
  i3 := by kernel_rfl }
open Go.RowKit Go.Lib in
/-- slices.Clone at []int: "Clone returns a copy of the slice. The elements are copied using assignment, so this is a shallow clone. The result may have additional unused capacity. The result preserves the nilness of s.": OF A SLICE THAT IS NOT nil IT RETURNS A SLICE THAT IS NOT nil, OF THE SAME ELEMENTS, IN MEMORY OF THE CALL's OWN: in the how-to's words (6f): 'w'.ownsRow B e 1 v' n cells': v' begins at the head of a row among the blocks from B on (B: the heap's size at the call), not frozen, whose first cells are the elements · 'Below B w w'': below B all is as it was. The capacity is whatever the run-time gives. 'zs': what the cells behind the slice's address hold; 'zs.take n': its elements. (LAID: no walk: one application.) -/
theorem Tryz.slices_Clone_int (b off n c : Nat) (zs : List Int) (w : World) (hz : n ≤ zs.length) (hbig : n * 8 ≤ 140737488355328) (hc : ∀ j, j < zs.length → w.cell? ⟨b, off + j, none⟩ = some (.int .i64 (zs.getD j 0))) :
    Calls Tryz.prog 71 #[.slice (some ⟨b, off, none⟩) n c] w fun e w' => ∃ v', e = .returned v' ∧ w'.ownsRow w.heap.size 3 1 v' n ((zs.take n).map (Value.int .i64)) ∧ v' ≠ .slice none 0 0 ∧ Below w.heap.size w w' := Any.slices_Clone_int Tryz.laysNm215 b off n c zs w hz hbig hc
open Go.RowKit Go.Lib in
/-- The same at nil: nil comes back; the world is as it was. (LAID: no walk: one application.) -/
theorem Tryz.slices_Clone_int_nil (n c : Nat) (w : World) :
    Calls Tryz.prog 71 #[.slice none n c] w fun e w' => e = .returned (.slice none 0 0) ∧ w' = w := Any.slices_Clone_int_nil Tryz.laysNm215 n c w
open Go.RowKit Go.Lib in
/-- The same at a slice of length 0 that is not nil, WHATEVER ITS ADDRESS (no cell is asked for): a slice that is not nil and owns nothing comes back. (LAID: no walk: one application.) -/
theorem Tryz.slices_Clone_int_zero (a : Addr) (c : Nat) (w : World) :
    Calls Tryz.prog 71 #[.slice (some a) 0 c] w fun e w' => ∃ v', e = .returned v' ∧ w'.ownsRow w.heap.size 3 1 v' 0 [] ∧ v' ≠ .slice none 0 0 ∧ Below w.heap.size w w' := Any.slices_Clone_int_zero Tryz.laysNm215 a c w
def Tryz.laysSlE041_f71_ren : Go.Shelf.Ren := ⟨fun | 41 => 71 | n => n, fun | 22 => 23 | 23 => 3 | 4 => 4 | n => n, fun | n => n⟩
theorem Tryz.laysSlE041_f71 : Go.Proofs.SlLaysE0.n41 Tryz.prog Tryz.laysSlE041_f71_ren := {
  mixed := by kernel_rfl
  f41 := ⟨Tryz.f71.name, by decide, Tryz.func71.trans (congrArg some (by kernel_rfl))⟩
  t4 := Tryz.underlying4
  a4 := Tryz.isAgg4
  z4 := Tryz.sizeOf4
  v4 := Tryz.zeroValue4
  t22 := Tryz.underlying23
  a22 := Tryz.isAgg23
  z22 := Tryz.sizeOf23
  v22 := Tryz.zeroValue23 }
open Go.RowKit Go.Lib in
/-- slices.Clone: "Clone returns a copy of the slice. The elements are copied using assignment, so this is a shallow clone. The result may have additional unused capacity. The result preserves the nilness of s.": OF A SLICE THAT IS NOT nil IT RETURNS A SLICE THAT IS NOT nil, OF THE SAME CELLS, IN MEMORY OF THE CALL's OWN ('ownsRow': the how-to's 6f); below the heap's size at the call all is as it was. (LAID AT THE INSTANCE 'slices.Clone[[]int,int]': no walk: one application.) -/
theorem Tryz.slices_Clone (i0 : TypeInfo) (z : Value) (size bytes : Nat) (hi : Tryz.prog.info? 3 = some i0) (hz0 : i0.zero = some z) (hz1 : i0.size = size) (hz2 : i0.bytes = bytes) (hzs : z.cells.size = size) (hsz : 0 < size) (z23 : ∀ w, (Go.sizeOf 3).run Tryz.prog w = .ok size w) (b off n c : Nat) (news : List Value) (w : World) (hl : news.length = n * size) (hn : n ≤ maxLen) (hbig : n * bytes ≤ 140737488355328) (hc : ∀ j u, news[j]? = some u → w.cell? ⟨b, off + j, none⟩ = some u) (h1 : ∀ u ∈ news, u.oneCell' = true) :
    Calls Tryz.prog 71 #[.slice (some ⟨b, off, none⟩) n c] w fun e w' => ∃ v', e = .returned v' ∧ w'.ownsRow w.heap.size 3 size v' n news ∧ v' ≠ .slice none 0 0 ∧ Below w.heap.size w w' := AnyE.slices_Clone Tryz.laysSlE041_f71 i0 z size bytes hi hz0 hz1 hz2 hzs hsz z23 b off n c news w hl hn hbig hc h1
open Go.RowKit Go.Lib in
/-- The same at nil: nil comes back; the world is as it was; nothing is asked of the element's type. (LAID AT THE INSTANCE 'slices.Clone[[]int,int]': no walk: one application.) -/
theorem Tryz.slices_Clone_nil (n c : Nat) (w : World) :
    Calls Tryz.prog 71 #[.slice none n c] w fun e w' => e = .returned (.slice none 0 0) ∧ w' = w := AnyE.slices_Clone_nil Tryz.laysSlE041_f71 n c w
def Tryz.laysSlH6_f84_ren : Go.Shelf.Ren := ⟨fun | 6 => 84 | n => n, fun | 22 => 23 | 23 => 3 | 25 => 100 | 3 => 3 | 0 => 0 | 4 => 4 | n => n, fun | n => n⟩
theorem Tryz.laysSlH6_f84 : Go.Proofs.SlLaysH.n6 Tryz.prog Tryz.laysSlH6_f84_ren := {
  mixed := by kernel_rfl
  f6 := ⟨Tryz.f84.name, by decide, Tryz.func84.trans (congrArg some (by kernel_rfl))⟩
  t0 := Tryz.underlying0
  a0 := Tryz.isAgg0
  z0 := Tryz.sizeOf0
  v0 := Tryz.zeroValue0
  t3 := Tryz.underlying3
  a3 := Tryz.isAgg3
  z3 := Tryz.sizeOf3
  v3 := Tryz.zeroValue3
  t4 := Tryz.underlying4
  a4 := Tryz.isAgg4
  z4 := Tryz.sizeOf4
  v4 := Tryz.zeroValue4
  t22 := Tryz.underlying23
  a22 := Tryz.isAgg23
  z22 := Tryz.sizeOf23
  v22 := Tryz.zeroValue23
  a23 := Tryz.isAgg3
  z23 := Tryz.sizeOf3
  t25 := Tryz.underlying100
  a25 := Tryz.isAgg100
  z25 := Tryz.sizeOf100
  v25 := Tryz.zeroValue100 }
open Go.RowKit Go.Lib in
/-- slices.IndexFunc: "IndexFunc returns the first index i satisfying f(s[i]), or -1 if none do." (LAID AT THE INSTANCE 'slices.IndexFunc[[]int,int]': no walk: one application.) -/
theorem Tryz.slices_IndexFunc {α : Type} [Inhabited α] (enc : α → Value) (p : α → Bool) (g : Nat) (lb : Array Value) (eg : ∀ args w, (callFunc g args).run Tryz.prog w = .ok (.enter g args) w) (b off n c : Nat) (zs : List α) (w : World) (hp : PredAt Tryz.prog g lb enc p w) (hz : n ≤ zs.length) (hbig : n ≤ 9223372036854775807) (hc : ∀ j, j < zs.length → w.cell? ⟨b, off + j, none⟩ = some (enc zs[j]!)) :
    Calls Tryz.prog 84 #[.slice (some ⟨b, off, none⟩) n c, .func (.func g) #[] lb] w fun e w' => e = .returned (.int .i64 (Lib.idxBy (fun _ y => p y) (zs.take n) default)) ∧ ∃ q, w' = w.drewN q := AnyE.slices_IndexFunc Tryz.laysSlH6_f84 enc p g lb eg b off n c zs w hp hz hbig hc
open Go.RowKit Go.Lib in
/-- The same at a slice of length 0, a nil one too: the predicate is not called: nothing is asked of it. (LAID AT THE INSTANCE 'slices.IndexFunc[[]int,int]': no walk: one application.) -/
theorem Tryz.slices_IndexFunc_empty {α : Type} [Inhabited α] (a : Option Addr) (c : Nat) (fv : Value) (w : World) :
    Calls Tryz.prog 84 #[.slice a 0 c, fv] w fun e w' => e = .returned (.int .i64 (-1)) ∧ w' = w := AnyE.slices_IndexFunc_empty Tryz.laysSlH6_f84 a c fv w
def Tryz.laysSlH8_f90_ren : Go.Shelf.Ren := ⟨fun | 8 => 90 | 6 => 84 | n => n, fun | 22 => 23 | 23 => 3 | 25 => 100 | 4 => 4 | 3 => 3 | 0 => 0 | n => n, fun | n => n⟩
theorem Tryz.laysSlH8_f90 : Go.Proofs.SlLaysH.n8 Tryz.prog Tryz.laysSlH8_f90_ren := {
  mixed := by kernel_rfl
  f6 := ⟨Tryz.f84.name, by decide, Tryz.func84.trans (congrArg some (by kernel_rfl))⟩
  f8 := ⟨Tryz.f90.name, by decide, Tryz.func90.trans (congrArg some (by kernel_rfl))⟩
  t0 := Tryz.underlying0
  a0 := Tryz.isAgg0
  z0 := Tryz.sizeOf0
  v0 := Tryz.zeroValue0
  t3 := Tryz.underlying3
  a3 := Tryz.isAgg3
  z3 := Tryz.sizeOf3
  v3 := Tryz.zeroValue3
  t4 := Tryz.underlying4
  a4 := Tryz.isAgg4
  z4 := Tryz.sizeOf4
  v4 := Tryz.zeroValue4
  t22 := Tryz.underlying23
  a22 := Tryz.isAgg23
  z22 := Tryz.sizeOf23
  v22 := Tryz.zeroValue23
  a23 := Tryz.isAgg3
  z23 := Tryz.sizeOf3
  t25 := Tryz.underlying100
  a25 := Tryz.isAgg100
  z25 := Tryz.sizeOf100
  v25 := Tryz.zeroValue100 }
open Go.RowKit Go.Lib in
/-- slices.ContainsFunc: "ContainsFunc reports whether at least one element e of s satisfies f(e).": ITS CALLEE slices.IndexFunc IS MET BY ITS OWN CONTRACT. (LAID AT THE INSTANCE 'slices.ContainsFunc[[]int,int]': no walk: one application.) -/
theorem Tryz.slices_ContainsFunc {α : Type} [Inhabited α] (enc : α → Value) (p : α → Bool) (g : Nat) (lb : Array Value) (eg : ∀ args w, (callFunc g args).run Tryz.prog w = .ok (.enter g args) w) (b off n c : Nat) (zs : List α) (w : World) (hp : PredAt Tryz.prog g lb enc p w) (hz : n ≤ zs.length) (hbig : n ≤ 9223372036854775807) (hc : ∀ j, j < zs.length → w.cell? ⟨b, off + j, none⟩ = some (enc zs[j]!)) :
    Calls Tryz.prog 90 #[.slice (some ⟨b, off, none⟩) n c, .func (.func g) #[] lb] w fun e w' => e = .returned (.bool ((zs.take n).any p)) ∧ ∃ q, w' = w.drewN q := AnyE.slices_ContainsFunc Tryz.laysSlH8_f90 enc p g lb eg b off n c zs w hp hz hbig hc
open Go.RowKit Go.Lib in
/-- The same at a slice of length 0, a nil one too. (LAID AT THE INSTANCE 'slices.ContainsFunc[[]int,int]': no walk: one application.) -/
theorem Tryz.slices_ContainsFunc_empty {α : Type} [Inhabited α] (a : Option Addr) (c : Nat) (fv : Value) (w : World) :
    Calls Tryz.prog 90 #[.slice a 0 c, fv] w fun e w' => e = .returned (.bool false) ∧ w' = w := AnyE.slices_ContainsFunc_empty Tryz.laysSlH8_f90 a c fv w
def Tryz.laysSlH10_f88_ren : Go.Shelf.Ren := ⟨fun | 10 => 88 | 6 => 84 | n => n, fun | 22 => 23 | 23 => 3 | 25 => 100 | 3 => 3 | 4 => 4 | 0 => 0 | n => n, fun | n => n⟩
theorem Tryz.laysSlH10_f88 : Go.Proofs.SlLaysH.n10 Tryz.prog Tryz.laysSlH10_f88_ren := {
  mixed := by kernel_rfl
  f6 := ⟨Tryz.f84.name, by decide, Tryz.func84.trans (congrArg some (by kernel_rfl))⟩
  f10 := ⟨Tryz.f88.name, by decide, Tryz.func88.trans (congrArg some (by kernel_rfl))⟩
  t0 := Tryz.underlying0
  a0 := Tryz.isAgg0
  z0 := Tryz.sizeOf0
  v0 := Tryz.zeroValue0
  t3 := Tryz.underlying3
  a3 := Tryz.isAgg3
  z3 := Tryz.sizeOf3
  v3 := Tryz.zeroValue3
  t4 := Tryz.underlying4
  a4 := Tryz.isAgg4
  z4 := Tryz.sizeOf4
  v4 := Tryz.zeroValue4
  t22 := Tryz.underlying23
  a22 := Tryz.isAgg23
  z22 := Tryz.sizeOf23
  v22 := Tryz.zeroValue23
  a23 := Tryz.isAgg3
  z23 := Tryz.sizeOf3
  t25 := Tryz.underlying100
  a25 := Tryz.isAgg100
  z25 := Tryz.sizeOf100
  v25 := Tryz.zeroValue100 }
open Go.RowKit Go.Lib Go.Sort in
theorem Tryz.slices_DeleteFunc {α : Type} [Inhabited α] (enc : α → Value) (hO : OneCell enc) (p : α → Bool) (g : Nat) (lb : Array Value) (eg : ∀ args w, (callFunc g args).run Tryz.prog w = .ok (.enter g args) w) (zr : α) (v23 : ∀ w, (zeroValue 3).run Tryz.prog w = .ok (enc zr) w) (blk off cap : Nat) (d : Array α) (w : World) (hp : PredAt Tryz.prog g lb enc p w) (hpo : PredOver Tryz.prog g lb enc p blk off d.size w) (hH : Holds enc w blk off d) (hsz : d.size ≤ 9223372036854775807) (hcap : d.size ≤ cap) :
    Calls Tryz.prog 88 #[.slice (some ⟨blk, off, none⟩) d.size cap, .func (.func g) #[] lb] w fun e w' => e = .returned (.slice (some ⟨blk, off, none⟩) (d.toList.filter fun x => !p x).length cap) ∧ ∃ q, w' = putRow enc (Sort.ahead w q) blk off ((d.toList.filter fun x => !p x) ++ List.replicate (d.size - (d.toList.filter fun x => !p x).length) zr).toArray := AnyE.slices_DeleteFunc Tryz.laysSlH10_f88 enc hO p g lb eg zr v23 blk off cap d w hp hpo hH hsz hcap
end Go.Proofs
/- Layer 3: logarithms, reckoned bit by bit. -/
namespace Go.Proofs.YtoaboklckkcjcaaGreat.logA
open Go.ChangeShapes Go.WideShapes Go.ChangeAt Go.RowKit
open Go.Proofs.YtoaboklckkcjcaaGreat.base
set_option linter.unusedVariables false

/-- One bit more behind the point. -/
def stp (p : Int × Int) : Int × Int := if 4294967296 ≤ p.1 * p.1 / 2147483648 then (p.1 * p.1 / 2147483648 / 2, 2 * p.2 + 1) else (p.1 * p.1 / 2147483648, 2 * p.2)
def iter : Nat → Int × Int → Int × Int
  | 0, p => p
  | k + 1, p => stp (iter k p)
def okx (x : Int) : Prop := 2147483648 ≤ x ∧ x < 4294967296
theorem sq_bd {x : Int} (h : okx x) : 4611686018427387904 ≤ x * x ∧ x * x < 18446744073709551616 := by
  obtain ⟨h0, h1⟩ := h
  constructor
  · have := Int.mul_le_mul h0 h0 (by omega) (by omega : (0 : Int) ≤ x)
    simpa using this
  · have := Int.mul_le_mul (by omega : x ≤ 4294967295) (by omega : x ≤ 4294967295) (by omega) (by omega : (0 : Int) ≤ 4294967295)
    omega
theorem stp_ok {p : Int × Int} (h : okx p.1) : okx (stp p).1 := by
  have := sq_bd h
  unfold stp okx
  split <;> dsimp only <;> omega
theorem iter_ok {p : Int × Int} (h : okx p.1) : ∀ k, okx (iter k p).1
  | 0 => h
  | k + 1 => stp_ok (iter_ok h k)
theorem iter_bd {p : Int × Int} (h0 : 0 ≤ p.2) (h1 : p.2 ≤ 63) : ∀ k, 0 ≤ (iter k p).2 ∧ (iter k p).2 < 64 * 2 ^ k
  | 0 => by simp only [iter]; omega
  | k + 1 => by
    have h := iter_bd h0 h1 k
    have e : (64 : Int) * 2 ^ (k + 1) = 2 * (64 * 2 ^ k) := by rw [Int.pow_succ]; omega
    rw [e]
    simp only [iter, stp]
    split <;> dsimp only <;> omega
/-- In order: first by what is told already, then by what is left. -/
def le (p q : Int × Int) : Prop := p.2 < q.2 ∨ (p.2 = q.2 ∧ p.1 ≤ q.1)
theorem stp_le {p q : Int × Int} (hp : okx p.1) (hq : okx q.1) (h : le p q) : le (stp p) (stp q) := by
  unfold le at h ⊢
  have hs : p.1 ≤ q.1 → p.1 * p.1 ≤ q.1 * q.1 := fun h => Int.mul_le_mul h h (by unfold okx at hp; omega) (by unfold okx at hq; omega)
  generalize hpp : p.1 * p.1 = a at *
  generalize hqq : q.1 * q.1 = b at *
  unfold stp
  rw [hpp, hqq]
  rcases h with h | ⟨h, h2⟩
  · split <;> split <;> dsimp only <;> omega
  · have := hs h2
    split <;> split <;> dsimp only <;> omega
theorem iter_le {p q : Int × Int} (hp : okx p.1) (hq : okx q.1) (h : le p q) : ∀ k, le (iter k p) (iter k q)
  | 0 => h
  | k + 1 => stp_le (iter_ok hp k) (iter_ok hq k) (iter_le hp hq h k)
theorem iter_pow (o : Int) : ∀ k, iter k (2147483648, o) = (2147483648, o * 2 ^ k)
  | 0 => by simp [iter]
  | k + 1 => by
    rw [iter, iter_pow o k, stp]
    simp only [Int.pow_succ]
    rw [if_neg (by decide)]
    congr 1
    grind

/-- A number, shifted so that its highest bit is the bit 31. -/
def norm (n : Nat) : Nat := n * 2 ^ (63 - n.log2) / 4294967296
theorem log2_lt {n : Nat} (h : n < 18446744073709551616) : n.log2 ≤ 63 := by
  rcases Nat.eq_zero_or_pos n with rfl | h0
  · decide
  · have := (Nat.log2_lt (by omega : n ≠ 0)).2 (show n < 2 ^ 64 from h)
    omega
theorem norm_ok {n : Nat} (h0 : 0 < n) (h : n < 18446744073709551616) : 2147483648 ≤ norm n ∧ norm n < 4294967296 ∧ n * 2 ^ (63 - n.log2) < 18446744073709551616 := by
  have h1 := Nat.log2_self_le (by omega : n ≠ 0)
  have h2 : n < 2 ^ (n.log2 + 1) := Nat.lt_log2_self
  have h3 := log2_lt h
  have e1 : 2 ^ n.log2 * 2 ^ (63 - n.log2) = 9223372036854775808 := by rw [← Nat.pow_add, show n.log2 + (63 - n.log2) = 63 by omega]
  have e2 : 2 ^ (n.log2 + 1) * 2 ^ (63 - n.log2) = 18446744073709551616 := by rw [← Nat.pow_add, show n.log2 + 1 + (63 - n.log2) = 64 by omega]
  have p : 0 < 2 ^ (63 - n.log2) := Nat.two_pow_pos _
  have a1 := Nat.mul_le_mul_right (2 ^ (63 - n.log2)) h1
  have a2 := Nat.mul_lt_mul_of_pos_right h2 p
  rw [e1] at a1
  rw [e2] at a2
  unfold norm
  omega
def logZ (n : Nat) : Int := if n = 0 then 0 else (iter 24 ((norm n : Nat), (n.log2 : Nat))).2
theorem start_le {m n : Nat} (hm : 0 < m) (h : m ≤ n) (hn : n < 18446744073709551616) : le ((norm m : Nat), (m.log2 : Nat)) ((norm n : Nat), (n.log2 : Nat)) := by
  unfold le
  have hl : m.log2 ≤ n.log2 := by
    have h1 := Nat.log2_self_le (by omega : m ≠ 0)
    exact (Nat.le_log2 (by omega : n ≠ 0)).2 (Nat.le_trans h1 h)
  rcases Nat.lt_or_ge m.log2 n.log2 with h2 | h2
  · left; dsimp only; omega
  · right
    have e : m.log2 = n.log2 := by omega
    refine ⟨by dsimp only; omega, ?_⟩
    dsimp only
    have : norm m ≤ norm n := by
      unfold norm
      rw [e]
      exact Nat.div_le_div_right (Nat.mul_le_mul_right _ h)
    omega
theorem logZ_le {m n : Nat} (hm : 0 < m) (h : m ≤ n) (hn : n < 18446744073709551616) : logZ m ≤ logZ n := by
  unfold logZ
  rw [if_neg (by omega), if_neg (by omega)]
  have a := norm_ok hm (by omega)
  have b := norm_ok (by omega : 0 < n) hn
  have h := iter_le (p := ((norm m : Nat), (m.log2 : Nat))) (q := ((norm n : Nat), (n.log2 : Nat))) ⟨by dsimp only; omega, by dsimp only; omega⟩ ⟨by dsimp only; omega, by dsimp only; omega⟩ (start_le hm h hn) 24
  unfold le at h
  omega
theorem norm_pow (k : Nat) (hk : k ≤ 63) : norm (2 ^ k) = 2147483648 := by
  unfold norm
  rw [Nat.log2_two_pow, ← Nat.pow_add, show k + (63 - k) = 63 by omega]
theorem logZ_pow (k : Nat) (hk : k ≤ 63) : logZ (2 ^ k) = k * 16777216 := by
  unfold logZ
  rw [if_neg (by have := Nat.two_pow_pos k; omega), norm_pow k hk, Nat.log2_two_pow]
  have := iter_pow (k : Int) 24
  show (iter 24 (2147483648, (k : Int))).2 = _
  rw [this]
  simp
theorem logZ_bd {n : Nat} (hn : n < 18446744073709551616) : 0 ≤ logZ n ∧ logZ n < 1073741824 := by
  unfold logZ
  split
  · omega
  · have h := iter_bd (p := ((norm n : Nat), (n.log2 : Nat))) (by dsimp only; omega) (by have := log2_lt hn; dsimp only; omega) 24
    have e : (64 : Int) * 2 ^ 24 = 1073741824 := by decide
    rw [e] at h
    exact h
end Go.Proofs.YtoaboklckkcjcaaGreat.logA
/- Layer 3: the code's logarithm. -/
namespace Go.Proofs.YtoaboklckkcjcaaGreat.logB
open Go.ChangeShapes Go.WideShapes Go.ChangeAt Go.RowKit
open Go.Proofs.YtoaboklckkcjcaaGreat.base Go.Proofs.YtoaboklckkcjcaaGreat.logA
set_option linter.unusedVariables false

theorem bitLenAux_eq : ∀ (f x : Nat), 0 < x → x < 2 ^ f → Lib.bitLenAux f x = x.log2 + 1
  | 0, x, h0, h1 => by simp at h1; omega
  | f + 1, x, h0, h1 => by
    rw [Lib.bitLenAux, if_neg (by omega)]
    rw [Nat.log2_def]
    by_cases h : 2 ≤ x
    · rw [if_pos h, bitLenAux_eq f (x / 2) (by omega) (by rw [Nat.pow_succ] at h1; omega)]
      omega
    · rw [if_neg h]
      have : x / 2 = 0 := by omega
      rw [this]
      cases f <;> simp [Lib.bitLenAux]
theorem bitLen_eq {x : Nat} (h0 : 0 < x) (h1 : x < 18446744073709551616) : Lib.bitLen x = x.log2 + 1 := bitLenAux_eq 64 x h0 h1
theorem or_bit (o b : Int) (h0 : 0 ≤ o) (h1 : o < 9223372036854775808) (hb : b = 0 ∨ b = 1) : bits .or .u64 (2 * o) b = 2 * o + b := by
  obtain ⟨m, rfl⟩ := Int.eq_ofNat_of_zero_le h0
  rcases hb with rfl | rfl
  · have h := u64_or_nat (2 * m) 0 (by omega) (by omega)
    rw [Nat.or_zero] at h
    simpa using h
  · have h := u64_or_nat (2 * m) 1 (by omega) (by omega)
    have e : 2 * m ||| 1 = 2 * m + 1 := by
      have := Nat.shiftLeft_add_eq_or_of_lt (show 1 < 2 ^ 1 by omega) m
      rw [Nat.shiftLeft_eq, Nat.pow_one] at this
      rw [Nat.mul_comm 2 m]
      exact this.symm
    rw [e] at h
    simpa using h

theorem log2_any (n : Nat) (h1 : n < 18446744073709551616) (w : World) :
    Calls Tryz.prog 119 #[.int .u64 n] w fun e w' => e = .returned (.int .u64 (logZ n)) ∧ w = w' := by
  rcases Nat.eq_zero_or_pos n with rfl | h0
  · go_enter Tryz.func119, Tryz.ntmps119
    go_wp2
    go_ret
    exact ⟨rfl, rfl⟩
  · have hL := log2_lt h1
    have hk := norm_ok h0 h1
    have hx : okx (norm n : Nat) := ⟨by omega, by omega⟩
    have hz : logZ n = (iter 24 ((norm n : Nat), (n.log2 : Nat))).2 := by unfold logZ; rw [if_neg (by omega)]
    have hbl := bitLen_eq h0 h1
    have hn0 : (((n : Int)) == 0) = false := by simp; omega
    have hp2 := hk.2.2
    have hnorm : (n : Int) * 2 ^ (63 - n.log2) / 4294967296 = (norm n : Nat) := by
      unfold norm
      rw [Int.natCast_ediv, Int.natCast_mul, Int.natCast_pow]; rfl
    have hwr : IntKind.u64.wrap ((n : Int) * 2 ^ (63 - n.log2)) = (n : Int) * 2 ^ (63 - n.log2) := by
      rw [IntKind.wrap_u64]
      have : ((n : Int) * 2 ^ (63 - n.log2)) = ((n * 2 ^ (63 - n.log2) : Nat) : Int) := by rw [Int.natCast_mul, Int.natCast_pow]; rfl
      rw [this]; omega
    generalize hnn : norm n = x0 at *
    generalize hLL : n.log2 = L at *
    obtain ⟨s, hs⟩ : ∃ s : Nat, s = 63 - L := ⟨_, rfl⟩
    rw [← hs] at hnorm hwr hp2
    have hs2 : (64 : Int) - ((L : Int) + 1) = (s : Int) := by omega
    have HZ := Lib.hid hz
    have HX := Lib.hid hx
    have HBL := Lib.hid hbl
    have HSS := Lib.hid hs
    have hs63 : s ≤ 63 := by omega
    clear hz hx hbl hnn hLL hs hk hp2
    go_enter Tryz.func119, Tryz.ntmps119
    go_wp2_with fail
    refine (Tryz.bits_Len64 (n : Int) _ (by omega) (by omega)).mono ?_
    rintro e w' ⟨rfl, rfl⟩
    rw [Int.toNat_natCast, HBL.out]
    go_wp2_with fail
    go_loop [4, 5, 6, 19] (fun x o b i => ∃ k : Nat, k ≤ 24 ∧ i = .int .i64 k ∧ x = .int .u64 (iter k ((x0 : Nat), (L : Nat))).1 ∧ o = .int .u64 (iter k ((x0 : Nat), (L : Nat))).2) (fun _ _ _ i => 24 - (intOf i).toNat)
    case atStart => exact ⟨0, by omega, rfl, rfl, rfl⟩
    case round =>
      obtain ⟨k, hk, rfl, rfl, rfl⟩ := hrel
      by_cases hlt : k < 24
      · have hok := iter_ok (p := ((x0 : Nat), (L : Nat))) HX.out k
        have hbd := iter_bd (p := ((x0 : Nat), (L : Nat))) (by dsimp only; omega) (by dsimp only; omega) k
        have h24 : (2 : Int) ^ k ≤ 2 ^ 23 := by
          have := Nat.pow_le_pow_right (n := 2) (by omega) (show k ≤ 23 by omega)
          exact_mod_cast this
        have e23 : (2 : Int) ^ 23 = 8388608 := by decide
        have ob : (iter k ((x0 : Nat), (L : Nat))).2 < 536870912 := by omega
        have o0 := hbd.1
        have hsq := sq_bd hok
        have hst : iter (k + 1) ((x0 : Nat), (L : Nat)) = stp (iter k ((x0 : Nat), (L : Nat))) := rfl
        have HST := Lib.hid hst
        clear hbd h24 e23 hst hok
        generalize iter k ((x0 : Nat), (L : Nat)) = p at *
        obtain ⟨x, o⟩ := p
        dsimp only at *
        have hw : IntKind.u64.wrap (x * x) = x * x := by rw [IntKind.wrap_u64]; omega
        have hst : stp (x, o) = if 4294967296 ≤ x * x / 2147483648 then (x * x / 2147483648 / 2, 2 * o + 1) else (x * x / 2147483648, 2 * o) := rfl
        have HS2 := Lib.hid hst
        clear hst
        generalize hxy : x * x = y at *
        by_cases hb : 4294967296 ≤ y / 2147483648
        · have e1 : y / 2147483648 / 4294967296 = 1 := by omega
          have e2 : IntKind.u64.wrap (o * 2) = 2 * o := by rw [IntKind.wrap_u64]; omega
          have e3 := or_bit o 1 o0 (by omega) (.inr rfl)
          have HS3 := Lib.hid (HS2.out.trans (if_pos hb))
          clear hb
          go_wp2_with fail
          go_round
          case rel => exact ⟨k + 1, by omega, by go_num, by rw [HST.out, HS3.out], by rw [HST.out, HS3.out]⟩
          case measure => simp [intOf]; omega
        · have e1 : y / 2147483648 / 4294967296 = 0 := by omega
          have e2 : IntKind.u64.wrap (o * 2) = 2 * o := by rw [IntKind.wrap_u64]; omega
          have e3 := or_bit o 0 o0 (by omega) (.inl rfl)
          have HS3 := Lib.hid (HS2.out.trans (if_neg hb))
          clear hb
          go_wp2_with fail
          go_round
          case rel => exact ⟨k + 1, by omega, by go_num, by rw [HST.out, HS3.out], by rw [HST.out, HS3.out]⟩
          case measure => simp [intOf]; omega
      · obtain rfl : k = 24 := by omega
        go_wp2
        go_ret
        exact ⟨by rw [HZ.out]; rfl, rfl⟩
end Go.Proofs.YtoaboklckkcjcaaGreat.logB
/- Layer 3: what draws are, and the law that greater ones are not more. -/
namespace Go.Proofs.YtoaboklckkcjcaaGreat.logC
open Go.ChangeShapes Go.WideShapes Go.ChangeAt Go.RowKit
open Go.Proofs.YtoaboklckkcjcaaGreat.base Go.Proofs.YtoaboklckkcjcaaGreat.logA Go.Proofs.YtoaboklckkcjcaaGreat.logB
set_option linter.unusedVariables false

def heldN (d : Int) : Nat := if d < 1 then 1 else if 65536 < d then 65536 else d.toNat
theorem heldN_bd (d : Int) : 1 ≤ heldN d ∧ heldN d ≤ 65536 := by unfold heldN; split <;> (try split) <;> omega
theorem heldN_le {a b : Int} (h : a ≤ b) : heldN a ≤ heldN b := by unfold heldN; split <;> split <;> (try split) <;> (try split) <;> omega
def ofZ (d : Int) : Int := 268435456 - logZ (heldN d)
theorem logZ_16 : logZ 65536 = 268435456 := logZ_pow 16 (by omega)
theorem logZ_top {n : Nat} (h0 : 1 ≤ n) (h : n ≤ 65536) : 0 ≤ logZ n ∧ logZ n ≤ 268435456 := by
  have := logZ_le (m := n) (n := 65536) (by omega) h (by omega)
  rw [logZ_16] at this
  exact ⟨(logZ_bd (by omega)).1, this⟩
theorem ofZ_bd (d : Int) : 0 ≤ ofZ d ∧ ofZ d ≤ 268435456 := by
  have h := heldN_bd d
  have := logZ_top h.1 h.2
  unfold ofZ; omega
theorem ofZ_le {a b : Int} (h : a ≤ b) : ofZ b ≤ ofZ a := by
  have h1 := heldN_bd a
  have h2 := heldN_bd b
  have := logZ_le (m := heldN a) (n := heldN b) (by omega) (heldN_le h) (by omega)
  unfold ofZ; omega
theorem ofZ_pow (k : Nat) (hk : k ≤ 16) : ofZ ((2 ^ k : Nat) : Int) = (16 - (k : Int)) * 16777216 := by
  have h1 : 1 ≤ 2 ^ k := Nat.one_le_two_pow
  have h2 : 2 ^ k ≤ 65536 := by
    have := Nat.pow_le_pow_right (n := 2) (by omega) hk
    simpa using this
  have e : heldN ((2 ^ k : Nat) : Int) = 2 ^ k := by unfold heldN; rw [if_neg (by omega), if_neg (by omega), Int.toNat_natCast]
  unfold ofZ
  rw [e, logZ_pow k (by omega)]
  omega

theorem held_any (d : Int) (w : World) :
    Calls Tryz.prog 109 #[.int .i64 d] w fun e w' => e = .returned (.int .i64 (heldN d)) ∧ w = w' := by
  have e : min (max d 1) 65536 = (heldN d : Int) := by unfold heldN; split <;> (try split) <;> omega
  go_enter Tryz.func109, Tryz.ntmps109
  go_wp2
  go_ret
  exact ⟨rfl, rfl⟩

theorem of_any (d : Int) (w : World) :
    Calls Tryz.prog 113 #[.int .i64 d] w fun e w' => e = .returned (.int .u64 (ofZ d)) ∧ w = w' := by
  have hb := heldN_bd d
  have hl := logZ_top hb.1 hb.2
  have he : 268435456 - logZ (heldN d) = ofZ d := rfl
  generalize hn : heldN d = n at *
  have HN := Lib.hid hn
  have HE := Lib.hid he
  clear hn he
  have H := fun w => held_any d w
  rw [HN.out] at H
  have HH := Lib.hid H
  clear H
  go_enter Tryz.func113, Tryz.ntmps113
  go_wp2_with (first
    | (go_at_call 109; refine (HH.out _).mono ?_; rintro e w' ⟨rfl, rfl⟩)
    | (go_at_call 119; refine (log2_any n (by omega) _).mono ?_; rintro e w' ⟨rfl, rfl⟩))
  go_ret
  exact ⟨by rw [← HE.out]; rfl, rfl⟩

end Go.Proofs.YtoaboklckkcjcaaGreat.logC
/- Slices that read as lists of values. -/
namespace Go.Proofs.YtoaboklckkcjcaaGreat.base
open Go.RowKit Go.WideShapes Go.ChangeShapes
set_option linter.unusedVariables false

/-- The slice at A reads as these values, in blocks below B (an empty one reads as nothing). -/
def Row (w : World) (B : Nat) (A : Option Addr) (xs : List Value) : Prop :=
  xs = [] ∨ ∃ b off, A = some ⟨b, off, none⟩ ∧ b < B ∧ ∀ i u, xs[i]? = some u → w.cell? ⟨b, off + i, none⟩ = some u
section
variable {w w' : World} {B B' : Nat} {A : Option Addr} {xs : List Value}
theorem Row.below (h : Row w B A xs) (hb : Below B w w') : Row w' B A xs := by
  rcases h with h | ⟨b, off, rfl, hlt, hc⟩
  · exact .inl h
  · exact .inr ⟨b, off, rfl, hlt, fun i u hu => (hb.cell (p := ⟨b, off + i, none⟩) hlt).trans (hc i u hu)⟩
theorem Row.more (h : Row w B A xs) (hB : B ≤ B') : Row w B' A xs := by
  rcases h with h | ⟨b, off, rfl, hlt, hc⟩
  · exact .inl h
  · exact .inr ⟨b, off, rfl, by omega, hc⟩
theorem Row.at_ (h : Row w B A xs) (hne : xs ≠ []) : ∃ b off, A = some ⟨b, off, none⟩ ∧ b < B ∧ ∀ i u, xs[i]? = some u → w.cell? ⟨b, off + i, none⟩ = some u := by
  rcases h with h | h
  · exact absurd h hne
  · exact h
theorem Row.take (h : Row w B A xs) (n : Nat) : Row w B A (xs.take n) := by
  rcases h with h | ⟨b, off, rfl, hlt, hc⟩
  · exact .inl (by simp [h])
  · refine .inr ⟨b, off, rfl, hlt, fun i u hu => hc i u ?_⟩
    rw [List.getElem?_take] at hu
    split at hu
    · exact hu
    · cases hu
end
theorem block_lt {w : World} {p : Addr} {v : Value} (h : w.cell? p = some v) : p.block < w.heap.size := by
  rcases Nat.lt_or_ge p.block w.heap.size with hlt | hge
  · exact hlt
  · simp [World.cell?, Array.getElem?_eq_none hge] at h
/-- A slice of integers that came in, as a row of values: its first len numbers. -/
theorem row_of_cells {w : World} {k : IntKind} {x : Addr} {zs : List Int} (h : ∀ i, i < zs.length → w.cell? (x.add i) = some (.int k (zs.getD i 0))) (n : Nat) :
    Row w w.heap.size (some x) ((zs.take n).map (.int k)) := by
  rcases Nat.eq_zero_or_pos zs.length with h0 | h0
  · exact .inl (by rw [List.eq_nil_of_length_eq_zero h0]; simp)
  · obtain ⟨b, off, rfl, hc⟩ := ints_at h h0
    refine .inr ⟨b, off, rfl, ?_, fun i u hu => ?_⟩
    · exact block_lt (hc 0 h0)
    · simp only [List.getElem?_map, Option.map_eq_some_iff] at hu
      obtain ⟨z, hz, rfl⟩ := hu
      rw [List.getElem?_take] at hz
      split at hz
      · have hl := (List.getElem?_eq_some_iff.1 hz).1
        rw [hc i hl, List.getD_eq_getElem?_getD, hz]; rfl
      · cases hz
end Go.Proofs.YtoaboklckkcjcaaGreat.base
/- Memory that a call makes: slices by make. -/
namespace Go.Proofs.YtoaboklckkcjcaaGreat.base
open Go.RowKit Go.WideShapes Go.ChangeShapes
set_option linter.unusedVariables false

def zeros (n : Nat) (z : Value) : Array Value := (List.replicate n z).toArray
theorem zeros_size (n : Nat) (z : Value) : (zeros n z).size = n := by simp [zeros]
theorem run_make_one {P : Program} (t e : TypeId) (i : TypeInfo) (z : Value) (ht : P.underlying t = some (.slice e)) (hi : P.info? e = some i) (hz : i.zero = some z) (h1 : i.size = 1) (hc : z.cells = #[z])
    (kl kc : IntKind) (C : Int) (h0 : 0 ≤ C) (hbytes : (i.bytes : Int) * C ≤ 281474976710656) (h63 : C ≤ 9223372036854775807) (w : World) :
    (Instr.makeSlice t (.int kl C) (.int kc C)).run P w = .ok (.slice (some ⟨w.heap.size, 0, none⟩) C.toNat C.toNat) (w.alloc (.cells (zeros C.toNat z) e)) := by
  rw [run_make (P := P) w t e i z ht hi hz kl kc C C h0 (Int.le_refl _) hbytes h63, h1, Nat.mul_one, hc]
  have : madeCells #[z] C.toNat = zeros C.toNat z := by
    apply Array.ext'
    rw [toList_madeCells_one]
    rfl
  rw [this]
theorem one_new (w : World) (u : Value) (t : TypeId) : ∀ (j : Nat) (x : Value), [u][j]? = some x → (w.alloc (.cells #[u] t)).cell? ((⟨w.heap.size, 0, none⟩ : Addr).add j) = some x := by
  intro j x h
  match j, h with
  | 0, h =>
    simp at h; subst h
    exact (Blk.new w t #[u]).cell 0
/-- An owned row that is not empty: where it lies. -/
theorem own_form {w : World} {base : Nat} {e : TypeId} {v : Value} {n : Nat} {xs : List Value} (h : w.ownsRow base e 1 v n xs) (hn : 0 < n) :
    ∃ g cap, v = .slice (some ⟨g, 0, none⟩) n cap ∧ base ≤ g ∧ g < w.heap.size ∧ n ≤ cap ∧ cap ≤ maxLen ∧ (∀ j, j < n → w.cell? ⟨g, j, none⟩ = xs[j]?) ∧ ∀ j, w.frozen? ⟨g, j, none⟩ = false := by
  rcases h.2 with ⟨rfl, h0⟩ | ⟨g, cap, cur, rfl, hb, hg, hnc, hm, hsz, htake⟩
  · omega
  · refine ⟨g, cap, rfl, hb, (h.lt g rfl).2, hnc, hm, fun j hj => ?_, fun j => ?_⟩
    · exact h.cellAt j (by omega)
    · exact h.frozenAt j
theorem own_row {w : World} {base : Nat} {e : TypeId} {A : Option Addr} {n c : Nat} {xs : List Value} (h : w.ownsRow base e 1 (.slice A n c) n xs) : Row w w.heap.size A xs := by
  rcases Nat.eq_zero_or_pos n with h0 | h0
  · exact .inl (List.eq_nil_of_length_eq_zero (by rw [h.1, h0]))
  · obtain ⟨g, cap, hv, _, hlt, _, _, hc, _⟩ := own_form h h0
    have hA : A = some ⟨g, 0, none⟩ := by injection hv
    subst hA
    refine .inr ⟨g, 0, rfl, hlt, fun i u hu => ?_⟩
    have hi := (List.getElem?_eq_some_iff.1 hu).1
    rw [Nat.zero_add, hc i (by rw [h.1] at hi; omega), hu]
/-- An owned row is a slice. -/
theorem own_slice {w : World} {base : Nat} {e : TypeId} {v : Value} {n : Nat} {xs : List Value} (h : w.ownsRow base e 1 v n xs) : ∃ A c, v = .slice A n c := by
  rcases h.2 with ⟨rfl, h0⟩ | ⟨g, cap, cur, rfl, _⟩
  · exact ⟨_, _, by rw [h0]⟩
  · exact ⟨_, _, rfl⟩
theorem own_stored {w : World} {base : Nat} {e : TypeId} {g n cap : Nat} {xs : List Value} (h : w.ownsRow base e 1 (.slice (some ⟨g, 0, none⟩) n cap) n xs) (j : Nat) (u : Value) :
    (w.setCell ⟨g, j, none⟩ u).ownsRow base e 1 (.slice (some ⟨g, 0, none⟩) n cap) n (xs.set j u) := (h.stored j u).1
theorem below_grown {B : Nat} {a w w' : World} {v : Value} {base : Nat} {e : TypeId} {n : Nat} {xs : List Value} (h : Below B a w) (ho : w.ownsRow base e 1 v n xs) (hB : B ≤ base) (hs : B ≤ w.heap.size) (hg : w.grownBy w' v.ownBlock) : Below B a w' :=
  h.grown hg hs fun k hk => by have := (ho.lt k hk).1; omega
end Go.Proofs.YtoaboklckkcjcaaGreat.base
/- Layer 3: a table of draws, filled once. -/
namespace Go.Proofs.YtoaboklckkcjcaaGreat.onceB
open Go.ChangeShapes Go.WideShapes Go.ChangeAt Go.RowKit
open Go.Proofs.YtoaboklckkcjcaaGreat.base Go.Proofs.YtoaboklckkcjcaaGreat.onceA Go.Proofs.YtoaboklckkcjcaaGreat.logC
set_option linter.unusedVariables false

/-- Nothing has changed but block g, and what is new. -/
structure AsideG (g : Nat) (w w' : World) : Prop where
  os : w'.os = w.os
  tape : w'.tape = w.tape
  output : w'.output = w.output
  size : w.heap.size ≤ w'.heap.size
  block : ∀ k, k < w.heap.size → k ≠ g → w'.heap[k]? = w.heap[k]?
theorem AsideG.refl (g : Nat) (w : World) : AsideG g w w := ⟨rfl, rfl, rfl, Nat.le_refl _, fun _ _ _ => rfl⟩
theorem AsideG.trans {g : Nat} {a b c : World} (h : AsideG g a b) (k : AsideG g b c) : AsideG g a c :=
  ⟨k.os.trans h.os, k.tape.trans h.tape, k.output.trans h.output, Nat.le_trans h.size k.size, fun i h1 h2 => (k.block i (Nat.lt_of_lt_of_le h1 h.size) h2).trans (h.block i h1 h2)⟩
theorem AsideG.set {g : Nat} {a b : World} (h : AsideG g a b) (o : Nat) (u : Value) : AsideG g a (b.setCell ⟨g, o, none⟩ u) :=
  ⟨h.os, h.tape, h.output, by simpa using h.size, fun k h1 h2 => (Below.heap_setCell b ⟨g, o, none⟩ u k h2).trans (h.block k h1 h2)⟩
theorem AsideG.new {g : Nat} {a b : World} (h : AsideG g a b) (p : Addr) (hp : a.heap.size ≤ p.block) (u : Value) : AsideG g a (b.setCell p u) :=
  ⟨h.os, h.tape, h.output, by simpa using h.size, fun k h1 h2 => (Below.heap_setCell b p u k (by omega)).trans (h.block k h1 h2)⟩
theorem AsideG.drew {g : Nat} {a b : World} (h : AsideG g a b) : AsideG g a b.drew := ⟨h.os, h.tape, h.output, h.size, h.block⟩
theorem AsideG.below {g : Nat} {a b c : World} (h : AsideG g a b) (k : Below b.heap.size b c) : AsideG g a c :=
  ⟨k.os.trans h.os, k.tape.trans h.tape, k.output.trans h.output, Nat.le_trans h.size k.size, fun i h1 h2 => (k.block i (Nat.lt_of_lt_of_le h1 h.size)).trans (h.block i h1 h2)⟩
theorem AsideG.low {g B : Nat} {a b : World} (h : AsideG g a b) (hg : B ≤ g) (hB : B ≤ a.heap.size) : Below B a b :=
  ⟨h.os, h.tape, h.output, h.size, fun k hk => h.block k (by omega) (by omega)⟩
theorem AsideG.from {g B : Nat} {z a b : World} (h : AsideG g a b) (hz : Below B z a) (hg : B ≤ g) (hB : B ≤ z.heap.size) : Below B z b := hz.trans (h.low hg (Nat.le_trans hB hz.size))
theorem AsideG.blk {g : Nat} {a b : World} (h : AsideG g a b) {k : Nat} {t : TypeId} {cs : Array Value} (hb : Blk a k t cs) (hk : k ≠ g) : Blk b k t cs := (h.block k hb.lt hk).trans hb

theorem info64 : (Tryz.prog.info? 24).map (fun i => (i.zero, i.size, i.bytes)) = some (some (.int .u64 0), 1, 8) := by kernel_rfl
/-- The first k of the table's numbers. -/
def FillTo (w : World) (h k : Nat) : Prop := ∃ cs : Array Value, Blk w h 24 cs ∧ cs.size = 65536 ∧ ∀ i, i < k → cs[i]? = some (.int .u64 (ofZ ((i : Int) + 1)))
theorem FillTo.blk {w w' : World} {h k : Nat} (f : FillTo w h k) (hb : w'.heap[h]? = w.heap[h]?) : FillTo w' h k := by
  obtain ⟨cs, h1, h2, h3⟩ := f
  exact ⟨cs, hb.trans h1, h2, h3⟩
theorem FillTo.lt {w : World} {h k : Nat} (f : FillTo w h k) : h < w.heap.size := by
  obtain ⟨cs, h1, _, _⟩ := f
  exact h1.lt
theorem FillTo.cell {w : World} {h k : Nat} (f : FillTo w h k) (i : Nat) (hi : i < k) : w.cell? ⟨h, i, none⟩ = some (.int .u64 (ofZ ((i : Int) + 1))) := by
  obtain ⟨cs, h1, _, h3⟩ := f
  rw [h1.cell i]
  exact h3 i hi
theorem FillTo.old {w : World} {h k : Nat} (f : FillTo w h k) (i : Nat) (hi : i < 65536) : ∃ u, w.cell? ⟨h, i, none⟩ = some u := by
  obtain ⟨cs, h1, h2, _⟩ := f
  exact ⟨cs[i]'(by omega), by rw [h1.cell i]; simp [h2, hi]⟩
theorem FillTo.frozen {w : World} {h k : Nat} (f : FillTo w h k) (i : Nat) : w.frozen? ⟨h, i, none⟩ = false := by
  obtain ⟨cs, h1, _, _⟩ := f
  exact h1.frozen i
theorem FillTo.next {w : World} {h k : Nat} (f : FillTo w h k) (hk : k < 65536) : FillTo (w.setCell ⟨h, k, none⟩ (.int .u64 (ofZ ((k : Int) + 1)))) h (k + 1) := by
  obtain ⟨cs, h1, h2, h3⟩ := f
  refine ⟨_, h1.set_ k _, by simpa using h2, fun i hi => ?_⟩
  rcases Nat.lt_or_ge i k with hlt | hge
  · rw [Array.getElem?_setIfInBounds_ne (by omega)]
    exact h3 i hlt
  · have : i = k := by omega
    subst this
    rw [Array.getElem?_setIfInBounds_self_of_lt (by omega)]
def TabC (d s : Int) (all : Value) : Array Value := #[.int .u32 d, .int .i32 s, .int .u32 0, all]
def FillPost (g : Nat) (T : TypeId) (w : World) (e : Ending) (w' : World) : Prop :=
  e = .returned (.tuple #[]) ∧ ∃ h, w.heap.size ≤ h ∧ Blk w' g T (TabC 0 1 (.slice (some ⟨h, 0, none⟩) 65536 65536)) ∧ FillTo w' h 65536 ∧ AsideG g w w'
set_option maxRecDepth 100000 in
set_option maxHeartbeats 4000000 in
theorem fill_any (g : Nat) (T : TypeId) (w : World) (hb : Blk w g T (TabC 0 1 (.slice none 0 0))) :
    Calls Tryz.prog 108 #[.pointer (some ⟨g, 0, none⟩)] w (FillPost g T w) := by
  obtain ⟨i0, hi, hz0, hz1, hz2⟩ := info_parts info64
  have hmk := run_make_one (P := Tryz.prog) 31 24 i0 (.int .u64 0) Tryz.underlying31 hi hz0 hz1 rfl .i64 .i64 65536 (by omega) (by rw [hz2]; decide) (by omega) w
  have HB := Lib.hid hb
  have HMK := Lib.hid hmk
  clear hi hz0 hz1 hz2
  have c3 : (w.alloc (.cells (zeros 65536 (.int .u64 0)) 24)).cell? ⟨g, 3, none⟩ = some (.slice none 0 0) := (hb.alloc _).cell 3
  have f3 : (w.alloc (.cells (zeros 65536 (.int .u64 0)) 24)).frozen? ⟨g, 3, none⟩ = false := (hb.alloc _).frozen 3
  have HG := Lib.hid hb.lt
  have HN := Lib.hid (show FillTo (w.alloc (.cells (zeros 65536 (.int .u64 0)) 24)) w.heap.size 0 from ⟨_, Blk.new _ _ _, by rw [zeros_size], fun i hi => by omega⟩)
  have HB2 := Lib.hid (show Blk ((w.alloc (.cells (zeros 65536 (.int .u64 0)) 24)).setCell ⟨g, 3, none⟩ (.slice (some ⟨w.heap.size, 0, none⟩) 65536 65536)) g T (TabC 0 1 (.slice (some ⟨w.heap.size, 0, none⟩) 65536 65536)) from (hb.alloc _).set_ 3 _)
  have HA := Lib.hid (show AsideG g w ((w.alloc (.cells (zeros 65536 (.int .u64 0)) 24)).setCell ⟨g, 3, none⟩ (.slice (some ⟨w.heap.size, 0, none⟩) 65536 65536)) from ((AsideG.refl g w).below ((Below.refl w.heap.size w).alloc (Nat.le_refl _) _)).set 3 _)
  clear hb
  rw [show ((65536 : Int)).toNat = 65536 by rfl] at hmk
  go_enter Tryz.func108, Tryz.ntmps108
  go_wp2_with fail
  obtain ⟨h, hh⟩ : ∃ h, h = w.heap.size := ⟨_, rfl⟩
  rw [← hh] at HN HB2 HA HMK ⊢
  have HH := Lib.hid hh
  have HGH := Lib.hid (show g < h by rw [hh]; exact HG.out)
  obtain ⟨w1, hw1⟩ : ∃ w1, w1 = (w.alloc (.cells (zeros 65536 (.int .u64 0)) 24)).setCell ⟨g, 3, none⟩ (.slice (some ⟨h, 0, none⟩) 65536 65536) := ⟨_, rfl⟩
  have HF1 := Lib.hid (show FillTo w1 h 0 from HN.out.blk (by rw [hw1]; exact Below.heap_setCell _ _ _ _ (by have := HGH.out; simp; omega)))
  rw [← hw1] at HB2 HA ⊢
  clear hw1 hh hmk c3 f3 HN HMK HB
  go_loopw [7] (fun i wr => ∃ k : Nat, i = .int .i64 k ∧ k ≤ 65536 ∧ FillTo wr h k ∧ Blk wr g T (TabC 0 1 (.slice (some ⟨h, 0, none⟩) 65536 65536)) ∧ AsideG g w wr) (fun i _ => 65536 - (intOf i).toNat)
  case atStart => exact ⟨0, rfl, by omega, HF1.out, HB2.out, HA.out⟩
  case round =>
    obtain ⟨k, rfl, hk, hf, hb, ha⟩ := hrel
    have KF := Lib.hid hf
    have KB := Lib.hid hb
    have KA := Lib.hid ha
    clear hf hb ha
    by_cases hlt : k < 65536
    · have t1 : decide ((k : Int) < 65536) = true := decide_eq_true (by omega)
      have c3 : wr.drew.cell? ⟨g, 3, none⟩ = some (.slice (some ⟨h, 0, none⟩) 65536 65536) := KB.out.cell 3
      obtain ⟨u, hu⟩ := KF.out.old k hlt
      have cu : wr.drew.cell? ⟨h, k, none⟩ = some u := hu
      have fu : wr.drew.frozen? ⟨h, k, none⟩ = false := KF.out.frozen k
      have k0 : (0 : Int) ≤ k := by omega
      have k1 : (k : Int) < 65536 := by omega
      have HX := Lib.hid (KF.out.next hlt)
      have HW := Lib.hid (show Blk (wr.setCell ⟨h, k, none⟩ (.int .u64 (ofZ ((k : Int) + 1)))) g T (TabC 0 1 (.slice (some ⟨h, 0, none⟩) 65536 65536)) from KB.out.far (by have := HGH.out; simp; omega) _)
      have HY := Lib.hid (KA.out.new ⟨h, k, none⟩ (by rw [HH.out]; exact Nat.le_refl _) (.int .u64 (ofZ ((k : Int) + 1))))
      have wk : IntKind.i64.wrap ((k : Int) + 1) = (k : Int) + 1 := IntWalk.i64_in _ (by omega)
      have H4 := Lib.hid (show (wr.setCell ⟨h, k, none⟩ (.int .u64 (ofZ ((k : Int) + 1)))).drew.cell? ⟨g, 3, none⟩ = some (.slice (some ⟨h, 0, none⟩) 65536 65536) from HW.out.drew.cell 3)
      clear hu
      go_wp2_with fail
      go_region_held3 (fun w' => w'.cell? ⟨g, 3, none⟩ = some (.slice (some ⟨h, 0, none⟩) 65536 65536)) (first | with_reducible assumption | with_reducible exact H4.out)
        (first
          | (go_at_call 113
             (with_reducible refine (of_any _ _).mono ?_)
             rintro e w' ⟨rfl, rfl⟩))
      clear c3 cu fu
      go_wp2_with fail
      go_roundw
      case rel => exact ⟨k + 1, by go_num, by omega, HX.out, HW.out, HY.out.drew⟩
      case measure => simp [intOf]; omega
    · have t1 : decide ((k : Int) < 65536) = false := decide_eq_false (by omega)
      have hk2 : k = 65536 := by omega
      have HP := Lib.hid (show FillPost g T w (.returned (.tuple #[])) wr from ⟨rfl, h, by rw [HH.out]; exact Nat.le_refl _, KB.out, hk2 ▸ KF.out, KA.out⟩)
      clear hk2
      go_wp2_with fail
      go_end0
      exact HP.out
end Go.Proofs.YtoaboklckkcjcaaGreat.onceB
