/- 4 texts in one. -/
import Derived.Shelf.Small.Bits
import Derived.Shelf.Strconv.Itoa0
import Derived.Shelf.Bits.Mul64
import Derived.Shelf.Slices.Turned
import Derived.Ground.Names2Prog
import Derived.Shelf.Slices.Clone
import Derived.Ground.SlgfProg
import Derived.Shelf.SlicesE.IndexFunc
import Derived.Shelf.SlicesE.DeleteFunc
import Derived.Test.YtoaboklckkcjcaaGreatProg
import Derived.Test.YtoaboklckkcjcaaGreatPk03
import Derived.Test.YtoaboklckkcjcaaGreatPk17
import Derived.Test.YtoaboklckkcjcaaGreatPk18
/-
  DERIVED: THE SHELF's CONTRACTS AT THIS DUMP, IN PLAIN WORDS (tools/lay-plain.mjs out of 'TryzShelf.lean', which tools/lay-shelf.mjs wrote): THE SAME DECLARATIONS UNDER THE SAME NAMES: 'import', 'namespace', 'open', 'def', 'theorem' AND NOTHING ELSE: no command of the shelf's: FOR A HAND-IN. Each laying: the table of numbers ('.._ren') and one theorem, a field a fact of the dump's own or the kernel's comparison; each contract: ONE APPLICATION.
-/
namespace Go.Proofs
open Go.Shelf
def Tryz.lays134_ren : Go.Shelf.Ren := ⟨fun | 134 => 120 | 129 => 125 | n => n, fun | 53 => 24 | 3 => 3 | 4 => 4 | 46 => 131 | 5 => 5 | 9 => 9 | n => n, fun | n => n⟩
theorem Tryz.lays134 : Go.Proofs.Lays.n134 Tryz.prog Tryz.lays134_ren := {
  mixed := by kernel_rfl
  f129 := Tryz.func125.trans (congrArg some (by kernel_rfl))
  f134 := Tryz.func120.trans (congrArg some (by kernel_rfl))
  t3 := Tryz.underlying3
  a3 := Tryz.isAgg3
  z3 := Tryz.sizeOf3
  v3 := Tryz.zeroValue3
  t4 := Tryz.underlying4
  a4 := Tryz.isAgg4
  z4 := Tryz.sizeOf4
  v4 := Tryz.zeroValue4
  t5 := Tryz.underlying5
  a5 := Tryz.isAgg5
  z5 := Tryz.sizeOf5
  v5 := Tryz.zeroValue5
  t9 := Tryz.underlying9
  a9 := Tryz.isAgg9
  z9 := Tryz.sizeOf9
  v9 := Tryz.zeroValue9
  t46 := Tryz.underlying131
  a46 := Tryz.isAgg131
  z46 := Tryz.sizeOf131
  v46 := Tryz.zeroValue131
  t53 := Tryz.underlying24
  a53 := Tryz.isAgg24
  z53 := Tryz.sizeOf24
  v53 := Tryz.zeroValue24 }
/-- bits.LeadingZeros64: "LeadingZeros64 returns the number of leading zero bits in x; the result is 64 for x == 0.": IT RETURNS '64 - Lib.bitLen x'; the world is as it was. ITS CALLEE bits.Len64 IS MET BY ITS OWN CONTRACT OFF THE SHELF (lay that first): entered in place it sends the kernel out of memory. (LAID: no walk: one application.) -/
theorem Tryz.bits_LeadingZeros64 (x : Int) (w : World) (h0 : 0 ≤ x) (h1 : x ≤ 18446744073709551615) :
    Calls Tryz.prog 120 #[.int .u64 x] w fun e w' => e = .returned (.int .i64 (64 - (Lib.bitLen x.toNat : Int))) ∧ w' = w := Any.bits_LeadingZeros64 Tryz.lays134 x w h0 h1
def Tryz.lays129_ren : Go.Shelf.Ren := ⟨fun | 129 => 125 | n => n, fun | 53 => 24 | 3 => 3 | 4 => 4 | 46 => 131 | 5 => 5 | 9 => 9 | n => n, fun | n => n⟩
theorem Tryz.lays129 : Go.Proofs.Lays.n129 Tryz.prog Tryz.lays129_ren := {
  mixed := by kernel_rfl
  f129 := Tryz.func125.trans (congrArg some (by kernel_rfl))
  t3 := Tryz.underlying3
  a3 := Tryz.isAgg3
  z3 := Tryz.sizeOf3
  v3 := Tryz.zeroValue3
  t4 := Tryz.underlying4
  a4 := Tryz.isAgg4
  z4 := Tryz.sizeOf4
  v4 := Tryz.zeroValue4
  t5 := Tryz.underlying5
  a5 := Tryz.isAgg5
  z5 := Tryz.sizeOf5
  v5 := Tryz.zeroValue5
  t9 := Tryz.underlying9
  a9 := Tryz.isAgg9
  z9 := Tryz.sizeOf9
  v9 := Tryz.zeroValue9
  t46 := Tryz.underlying131
  a46 := Tryz.isAgg131
  z46 := Tryz.sizeOf131
  v46 := Tryz.zeroValue131
  t53 := Tryz.underlying24
  a53 := Tryz.isAgg24
  z53 := Tryz.sizeOf24
  v53 := Tryz.zeroValue24 }
/-- bits.Len64: "Len64 returns the minimum number of bits required to represent x; the result is 0 for x == 0.": IT RETURNS 'Lib.bitLen x'; the world is as it was. ('h0', 'h1': x is a uint64.) (LAID: no walk: one application.) -/
theorem Tryz.bits_Len64 (x : Int) (w : World) (h0 : 0 ≤ x) (h1 : x ≤ 18446744073709551615) :
    Calls Tryz.prog 125 #[.int .u64 x] w fun e w' => e = .returned (.int .i64 (Lib.bitLen x.toNat)) ∧ w' = w := Any.bits_Len64 Tryz.lays129 x w h0 h1
def Tryz.lays264_ren : Go.Shelf.Ren := ⟨fun | 264 => 78 | n => n, fun | 53 => 24 | 46 => 131 | n => n, fun | n => n⟩
theorem Tryz.lays264 : Go.Proofs.Lays.n264 Tryz.prog Tryz.lays264_ren := {
  mixed := by kernel_rfl
  f264 := Tryz.func78.trans (congrArg some (by kernel_rfl))
  t46 := Tryz.underlying131
  a46 := Tryz.isAgg131
  z46 := Tryz.sizeOf131
  v46 := Tryz.zeroValue131
  t53 := Tryz.underlying24
  a53 := Tryz.isAgg24
  z53 := Tryz.sizeOf24
  v53 := Tryz.zeroValue24 }
open Go.RowKit Go.Lib in
theorem Tryz.bits_Mul64 (x y : Nat) (hx : x < 18446744073709551616) (hy : y < 18446744073709551616) (w : World) :
    Calls Tryz.prog 78 #[.int .u64 x, .int .u64 y] w fun e w' => e = .returned (.tuple #[.int .u64 ((x * y / 18446744073709551616 : Nat) : Int), .int .u64 ((x * y % 18446744073709551616 : Nat) : Int)]) ∧ w' = w := Any.bits_Mul64 Tryz.lays264 x y hx hy w
def Tryz.lays108_ren : Go.Shelf.Ren := ⟨fun | 108 => 60 | n => n, fun | 28 => 23 | 3 => 3 | 0 => 0 | 4 => 4 | n => n, fun | n => n⟩
theorem Tryz.lays108 : Go.Proofs.Lays.n108 Tryz.prog Tryz.lays108_ren := {
  mixed := by kernel_rfl
  f108 := Tryz.func60.trans (congrArg some (by kernel_rfl))
  t0 := Tryz.underlying0
  a0 := Tryz.isAgg0
  z0 := Tryz.sizeOf0
  v0 := Tryz.zeroValue0
  t3 := Tryz.underlying3
  a3 := Tryz.isAgg3
  z3 := Tryz.sizeOf3
  v3 := Tryz.zeroValue3
  t4 := Tryz.underlying4
  a4 := Tryz.isAgg4
  z4 := Tryz.sizeOf4
  v4 := Tryz.zeroValue4
  t28 := Tryz.underlying23
  a28 := Tryz.isAgg23
  z28 := Tryz.sizeOf23
  v28 := Tryz.zeroValue23 }
open Go.Lib in
/-- slices.Index at []int: "Index returns the index of the first occurrence of v in s, or -1 if not present.": IT RETURNS 'Lib.idxOf (the elements) v'; the world is as it was. 'zs': what the cells behind the slice's address hold (its spare capacity too, if you have it); 'zs.take n': its elements. (LAID: no walk: one application.) -/
theorem Tryz.slices_Index_int (b off n c : Nat) (zs : List Int) (x : Int) (w : World) (hz : n ≤ zs.length) (hbig : n ≤ 9223372036854775807) (hc : ∀ j, j < zs.length → w.cell? ⟨b, off + j, none⟩ = some (.int .i64 (zs.getD j 0))) :
    Calls Tryz.prog 60 #[.slice (some ⟨b, off, none⟩) n c, .int .i64 x] w fun e w' => e = .returned (.int .i64 (Lib.idxOf (zs.take n) x)) ∧ w' = w := Any.slices_Index_int Tryz.lays108 b off n c zs x w hz hbig hc
open Go.Lib in
/-- The same at a slice of length 0, a nil one too: no cell is known, none is asked for. (LAID: no walk: one application.) -/
theorem Tryz.slices_Index_int_empty (a : Option Addr) (c : Nat) (x : Int) (w : World) :
    Calls Tryz.prog 60 #[.slice a 0 c, .int .i64 x] w fun e w' => e = .returned (.int .i64 (Lib.idxOf [] x)) ∧ w' = w := Any.slices_Index_int_empty Tryz.lays108 a c x w
def Tryz.laysNm215_ren : Go.Shelf.Ren := ⟨fun | 15 => 71 | n => n, fun | 22 => 23 | 3 => 3 | 4 => 4 | n => n, fun | n => n⟩
theorem Tryz.laysNm215 : Go.Proofs.Lays2.n15 Tryz.prog Tryz.laysNm215_ren := {
  mixed := by kernel_rfl
  f15 := Tryz.func71.trans (congrArg some (by kernel_rfl))
  t3 := Tryz.underlying3
  a3 := Tryz.isAgg3
  z3 := Tryz.sizeOf3
  v3 := Tryz.zeroValue3
  t4 := Tryz.underlying4
  a4 := Tryz.isAgg4
  z4 := Tryz.sizeOf4
  v4 := Tryz.zeroValue4
  t22 := Tryz.underlying23
  a22 := Tryz.isAgg23
  z22 := Tryz.sizeOf23
  v22 := Tryz.zeroValue23
  i3 := by kernel_rfl }
open Go.RowKit Go.Lib in
/-- slices.Clone at []int: "Clone returns a copy of the slice. The elements are copied using assignment, so this is a shallow clone. The result may have additional unused capacity. The result preserves the nilness of s.": OF A SLICE THAT IS NOT nil IT RETURNS A SLICE THAT IS NOT nil, OF THE SAME ELEMENTS, IN MEMORY OF THE CALL's OWN: in the how-to's words (6f): 'w'.ownsRow B e 1 v' n cells': v' begins at the head of a row among the blocks from B on (B: the heap's size at the call), not frozen, whose first cells are the elements · 'Below B w w'': below B all is as it was. The capacity is whatever the run-time gives. 'zs': what the cells behind the slice's address hold; 'zs.take n': its elements. (LAID: no walk: one application.) -/
theorem Tryz.slices_Clone_int (b off n c : Nat) (zs : List Int) (w : World) (hz : n ≤ zs.length) (hbig : n * 8 ≤ 140737488355328) (hc : ∀ j, j < zs.length → w.cell? ⟨b, off + j, none⟩ = some (.int .i64 (zs.getD j 0))) :
    Calls Tryz.prog 71 #[.slice (some ⟨b, off, none⟩) n c] w fun e w' => ∃ v', e = .returned v' ∧ w'.ownsRow w.heap.size 3 1 v' n ((zs.take n).map (Value.int .i64)) ∧ v' ≠ .slice none 0 0 ∧ Below w.heap.size w w' := Any.slices_Clone_int Tryz.laysNm215 b off n c zs w hz hbig hc
open Go.RowKit Go.Lib in
/-- The same at nil: nil comes back; the world is as it was. (LAID: no walk: one application.) -/
theorem Tryz.slices_Clone_int_nil (n c : Nat) (w : World) :
    Calls Tryz.prog 71 #[.slice none n c] w fun e w' => e = .returned (.slice none 0 0) ∧ w' = w := Any.slices_Clone_int_nil Tryz.laysNm215 n c w
open Go.RowKit Go.Lib in
/-- The same at a slice of length 0 that is not nil, WHATEVER ITS ADDRESS (no cell is asked for): a slice that is not nil and owns nothing comes back. (LAID: no walk: one application.) -/
theorem Tryz.slices_Clone_int_zero (a : Addr) (c : Nat) (w : World) :
    Calls Tryz.prog 71 #[.slice (some a) 0 c] w fun e w' => ∃ v', e = .returned v' ∧ w'.ownsRow w.heap.size 3 1 v' 0 [] ∧ v' ≠ .slice none 0 0 ∧ Below w.heap.size w w' := Any.slices_Clone_int_zero Tryz.laysNm215 a c w
def Tryz.laysSlH6_f84_ren : Go.Shelf.Ren := ⟨fun | 6 => 84 | n => n, fun | 22 => 23 | 23 => 3 | 25 => 100 | 3 => 3 | 0 => 0 | 4 => 4 | n => n, fun | n => n⟩
theorem Tryz.laysSlH6_f84 : Go.Proofs.SlLaysH.n6 Tryz.prog Tryz.laysSlH6_f84_ren := {
  mixed := by kernel_rfl
  f6 := ⟨Tryz.f84.name, by decide, Tryz.func84.trans (congrArg some (by kernel_rfl))⟩
  t0 := Tryz.underlying0
  a0 := Tryz.isAgg0
  z0 := Tryz.sizeOf0
  v0 := Tryz.zeroValue0
  t3 := Tryz.underlying3
  a3 := Tryz.isAgg3
  z3 := Tryz.sizeOf3
  v3 := Tryz.zeroValue3
  t4 := Tryz.underlying4
  a4 := Tryz.isAgg4
  z4 := Tryz.sizeOf4
  v4 := Tryz.zeroValue4
  t22 := Tryz.underlying23
  a22 := Tryz.isAgg23
  z22 := Tryz.sizeOf23
  v22 := Tryz.zeroValue23
  a23 := Tryz.isAgg3
  z23 := Tryz.sizeOf3
  t25 := Tryz.underlying100
  a25 := Tryz.isAgg100
  z25 := Tryz.sizeOf100
  v25 := Tryz.zeroValue100 }
open Go.RowKit Go.Lib in
/-- slices.IndexFunc: "IndexFunc returns the first index i satisfying f(s[i]), or -1 if none do." (LAID AT THE INSTANCE 'slices.IndexFunc[[]int,int]': no walk: one application.) -/
theorem Tryz.slices_IndexFunc {α : Type} [Inhabited α] (enc : α → Value) (p : α → Bool) (g : Nat) (lb : Array Value) (eg : ∀ args w, (callFunc g args).run Tryz.prog w = .ok (.enter g args) w) (b off n c : Nat) (zs : List α) (w : World) (hp : PredAt Tryz.prog g lb enc p w) (hz : n ≤ zs.length) (hbig : n ≤ 9223372036854775807) (hc : ∀ j, j < zs.length → w.cell? ⟨b, off + j, none⟩ = some (enc zs[j]!)) :
    Calls Tryz.prog 84 #[.slice (some ⟨b, off, none⟩) n c, .func (.func g) #[] lb] w fun e w' => e = .returned (.int .i64 (Lib.idxBy (fun _ y => p y) (zs.take n) default)) ∧ ∃ q, w' = w.drewN q := AnyE.slices_IndexFunc Tryz.laysSlH6_f84 enc p g lb eg b off n c zs w hp hz hbig hc
open Go.RowKit Go.Lib in
/-- The same at a slice of length 0, a nil one too: the predicate is not called: nothing is asked of it. (LAID AT THE INSTANCE 'slices.IndexFunc[[]int,int]': no walk: one application.) -/
theorem Tryz.slices_IndexFunc_empty {α : Type} [Inhabited α] (a : Option Addr) (c : Nat) (fv : Value) (w : World) :
    Calls Tryz.prog 84 #[.slice a 0 c, fv] w fun e w' => e = .returned (.int .i64 (-1)) ∧ w' = w := AnyE.slices_IndexFunc_empty Tryz.laysSlH6_f84 a c fv w
def Tryz.laysSlH8_f90_ren : Go.Shelf.Ren := ⟨fun | 8 => 90 | 6 => 84 | n => n, fun | 22 => 23 | 23 => 3 | 25 => 100 | 4 => 4 | 3 => 3 | 0 => 0 | n => n, fun | n => n⟩
theorem Tryz.laysSlH8_f90 : Go.Proofs.SlLaysH.n8 Tryz.prog Tryz.laysSlH8_f90_ren := {
  mixed := by kernel_rfl
  f6 := ⟨Tryz.f84.name, by decide, Tryz.func84.trans (congrArg some (by kernel_rfl))⟩
  f8 := ⟨Tryz.f90.name, by decide, Tryz.func90.trans (congrArg some (by kernel_rfl))⟩
  t0 := Tryz.underlying0
  a0 := Tryz.isAgg0
  z0 := Tryz.sizeOf0
  v0 := Tryz.zeroValue0
  t3 := Tryz.underlying3
  a3 := Tryz.isAgg3
  z3 := Tryz.sizeOf3
  v3 := Tryz.zeroValue3
  t4 := Tryz.underlying4
  a4 := Tryz.isAgg4
  z4 := Tryz.sizeOf4
  v4 := Tryz.zeroValue4
  t22 := Tryz.underlying23
  a22 := Tryz.isAgg23
  z22 := Tryz.sizeOf23
  v22 := Tryz.zeroValue23
  a23 := Tryz.isAgg3
  z23 := Tryz.sizeOf3
  t25 := Tryz.underlying100
  a25 := Tryz.isAgg100
  z25 := Tryz.sizeOf100
  v25 := Tryz.zeroValue100 }
open Go.RowKit Go.Lib in
/-- slices.ContainsFunc: "ContainsFunc reports whether at least one element e of s satisfies f(e).": ITS CALLEE slices.IndexFunc IS MET BY ITS OWN CONTRACT. (LAID AT THE INSTANCE 'slices.ContainsFunc[[]int,int]': no walk: one application.) -/
theorem Tryz.slices_ContainsFunc {α : Type} [Inhabited α] (enc : α → Value) (p : α → Bool) (g : Nat) (lb : Array Value) (eg : ∀ args w, (callFunc g args).run Tryz.prog w = .ok (.enter g args) w) (b off n c : Nat) (zs : List α) (w : World) (hp : PredAt Tryz.prog g lb enc p w) (hz : n ≤ zs.length) (hbig : n ≤ 9223372036854775807) (hc : ∀ j, j < zs.length → w.cell? ⟨b, off + j, none⟩ = some (enc zs[j]!)) :
    Calls Tryz.prog 90 #[.slice (some ⟨b, off, none⟩) n c, .func (.func g) #[] lb] w fun e w' => e = .returned (.bool ((zs.take n).any p)) ∧ ∃ q, w' = w.drewN q := AnyE.slices_ContainsFunc Tryz.laysSlH8_f90 enc p g lb eg b off n c zs w hp hz hbig hc
open Go.RowKit Go.Lib in
/-- The same at a slice of length 0, a nil one too. (LAID AT THE INSTANCE 'slices.ContainsFunc[[]int,int]': no walk: one application.) -/
theorem Tryz.slices_ContainsFunc_empty {α : Type} [Inhabited α] (a : Option Addr) (c : Nat) (fv : Value) (w : World) :
    Calls Tryz.prog 90 #[.slice a 0 c, fv] w fun e w' => e = .returned (.bool false) ∧ w' = w := AnyE.slices_ContainsFunc_empty Tryz.laysSlH8_f90 a c fv w
def Tryz.laysSlH10_f88_ren : Go.Shelf.Ren := ⟨fun | 10 => 88 | 6 => 84 | n => n, fun | 22 => 23 | 23 => 3 | 25 => 100 | 3 => 3 | 4 => 4 | 0 => 0 | n => n, fun | n => n⟩
theorem Tryz.laysSlH10_f88 : Go.Proofs.SlLaysH.n10 Tryz.prog Tryz.laysSlH10_f88_ren := {
  mixed := by kernel_rfl
  f6 := ⟨Tryz.f84.name, by decide, Tryz.func84.trans (congrArg some (by kernel_rfl))⟩
  f10 := ⟨Tryz.f88.name, by decide, Tryz.func88.trans (congrArg some (by kernel_rfl))⟩
  t0 := Tryz.underlying0
  a0 := Tryz.isAgg0
  z0 := Tryz.sizeOf0
  v0 := Tryz.zeroValue0
  t3 := Tryz.underlying3
  a3 := Tryz.isAgg3
  z3 := Tryz.sizeOf3
  v3 := Tryz.zeroValue3
  t4 := Tryz.underlying4
  a4 := Tryz.isAgg4
  z4 := Tryz.sizeOf4
  v4 := Tryz.zeroValue4
  t22 := Tryz.underlying23
  a22 := Tryz.isAgg23
  z22 := Tryz.sizeOf23
  v22 := Tryz.zeroValue23
  a23 := Tryz.isAgg3
  z23 := Tryz.sizeOf3
  t25 := Tryz.underlying100
  a25 := Tryz.isAgg100
  z25 := Tryz.sizeOf100
  v25 := Tryz.zeroValue100 }
open Go.RowKit Go.Lib Go.Sort in
theorem Tryz.slices_DeleteFunc {α : Type} [Inhabited α] (enc : α → Value) (hO : OneCell enc) (p : α → Bool) (g : Nat) (lb : Array Value) (eg : ∀ args w, (callFunc g args).run Tryz.prog w = .ok (.enter g args) w) (zr : α) (v23 : ∀ w, (zeroValue 3).run Tryz.prog w = .ok (enc zr) w) (blk off cap : Nat) (d : Array α) (w : World) (hp : PredAt Tryz.prog g lb enc p w) (hpo : PredOver Tryz.prog g lb enc p blk off d.size w) (hH : Holds enc w blk off d) (hsz : d.size ≤ 9223372036854775807) (hcap : d.size ≤ cap) :
    Calls Tryz.prog 88 #[.slice (some ⟨blk, off, none⟩) d.size cap, .func (.func g) #[] lb] w fun e w' => e = .returned (.slice (some ⟨blk, off, none⟩) (d.toList.filter fun x => !p x).length cap) ∧ ∃ q, w' = putRow enc (Sort.ahead w q) blk off ((d.toList.filter fun x => !p x) ++ List.replicate (d.size - (d.toList.filter fun x => !p x).length) zr).toArray := AnyE.slices_DeleteFunc Tryz.laysSlH10_f88 enc hO p g lb eg zr v23 blk off cap d w hp hpo hH hsz hcap
end Go.Proofs
/- Layer 25: the item that is picked, in plain words. -/
namespace Go.Proofs.YtoaboklckkcjcaaGreat.strG
open Go.Proofs.YtoaboklckkcjcaaGreat.base Go.Proofs.YtoaboklckkcjcaaGreat.wideC Go.Proofs.YtoaboklckkcjcaaGreat.wideF Go.Proofs.YtoaboklckkcjcaaGreat.wideG Go.Proofs.YtoaboklckkcjcaaGreat.strA
set_option linter.unusedVariables false

def rk (key : Int) (x : Int × Int) : Int × Int := (lenZ key x.1, x.2)
theorem rk_good {key : Int} {x : Int × Int} (h : good x) : good (rk key x) := by
  have h1 := lenZ_in key x.1
  unfold rk
  generalize lenZ key x.1 = y at *
  exact ⟨h1, h.2⟩
theorem cmp_cf (key : Int) (a b : Int × Int) (ha : 0 < a.2) (hb : 0 < b.2) : cmpI (lenZ key a.1 * b.2) (lenZ key b.1 * a.2) = cf (rk key a) (rk key b) := by
  unfold cf cmpF rk
  simp only
  rw [if_neg (by omega)]
/-- Not longer, and of one length not the greater number. -/
def LE (key : Int) (a b : Int × Int) : Prop := cf (rk key a) (rk key b) < 0 ∨ (cf (rk key a) (rk key b) = 0 ∧ a.1 ≤ b.1)
theorem LE.le {key : Int} {a b : Int × Int} (h : LE key a b) : cf (rk key a) (rk key b) ≤ 0 := by
  rcases h with h | ⟨h, _⟩ <;> omega
theorem LE.trans {key : Int} {a b c : Int × Int} (ga : good a) (gb : good b) (gc : good c) (h1 : LE key a b) (h2 : LE key b c) : LE key a c := by
  have e1 := cf_trans (rk_good (key := key) ga) (rk_good (key := key) gb) (rk_good (key := key) gc) h1.le h2.le
  by_cases h0 : cf (rk key a) (rk key c) < 0
  · exact .inl h0
  · have h3 : cf (rk key a) (rk key c) = 0 := by omega
    have n1 := cf_neg (rk key a) (rk key c)
    have n2 := cf_neg (rk key b) (rk key c)
    have n3 := cf_neg (rk key a) (rk key b)
    have h4 : cf (rk key c) (rk key a) ≤ 0 := by omega
    have h5 := cf_trans (rk_good (key := key) gc) (rk_good (key := key) ga) (rk_good (key := key) gb) h4 h1.le
    have h6 := cf_trans (rk_good (key := key) gb) (rk_good (key := key) gc) (rk_good (key := key) ga) h2.le h4
    refine .inr ⟨h3, ?_⟩
    rcases h1 with h1 | ⟨_, h1⟩
    · omega
    · rcases h2 with h2 | ⟨_, h2⟩
      · omega
      · omega
theorem LE.self (key : Int) (a : Int × Int) : LE key a a := .inr ⟨cf_self, Int.le_refl _⟩
theorem LE.both {key : Int} {a b : Int × Int} (h1 : LE key a b) (h2 : LE key b a) : a.1 = b.1 := by
  have n := cf_neg (rk key a) (rk key b)
  rcases h1 with h1 | ⟨e1, h1⟩ <;> rcases h2 with h2 | ⟨e2, h2⟩ <;> omega
theorem sh_yes {key : Int} {a b : Int × Int} (ha : 0 < a.2) (hb : 0 < b.2) (h : shB key a b = true) : LE key a b := by
  unfold shB at h
  rw [cmp_cf key a b ha hb] at h
  simp only [Bool.or_eq_true, Bool.and_eq_true, decide_eq_true_eq, beq_iff_eq] at h
  rcases h with h | ⟨h, h2⟩
  · exact .inl h
  · exact .inr ⟨h, by omega⟩
theorem sh_no {key : Int} {a b : Int × Int} (ha : 0 < a.2) (hb : 0 < b.2) (h : ¬ shB key a b = true) : LE key b a := by
  unfold shB at h
  rw [cmp_cf key a b ha hb] at h
  simp only [Bool.or_eq_true, Bool.and_eq_true, decide_eq_true_eq, beq_iff_eq] at h
  have n := cf_neg (rk key a) (rk key b)
  by_cases h1 : cf (rk key a) (rk key b) < 0
  · exact absurd (.inl h1) h
  · by_cases h2 : cf (rk key a) (rk key b) = 0
    · refine .inr ⟨by omega, ?_⟩
      rcases Int.lt_or_le a.1 b.1 with h3 | h3
      · exact absurd (.inr ⟨h2, h3⟩) h
      · exact h3
    · exact .inl (by omega)
theorem none_zero (key : Int) (l : List (Int × Int)) : ∀ k, pk key l k = none → ∀ i, i < k → ¬ 0 < (l.getD i (0, 0)).2
  | 0, h, i, hi => by omega
  | k + 1, h, i, hi => by
    have ih := none_zero key l k
    unfold pk at h
    by_cases hk : 0 < (l.getD k (0, 0)).2
    · rw [if_pos hk] at h
      cases hm : pk key l k with
      | none => rw [hm] at h; cases h
      | some q =>
        rw [hm] at h
        simp only at h
        split at h <;> cases h
    · rw [if_neg hk] at h
      rcases Nat.lt_or_ge i k with h2 | h2
      · exact ih h i h2
      · have : i = k := by omega
        subst this
        exact hk
theorem pk_best (key : Int) (l : List (Int × Int)) (hg : ∀ i, good (l.getD i (0, 0))) : ∀ k j, pk key l k = some j → ∀ i, i < k → 0 < (l.getD i (0, 0)).2 → LE key (l.getD j (0, 0)) (l.getD i (0, 0))
  | 0, j, h, i, hi, hw => by omega
  | k + 1, j, h, i, hi, hw => by
    have ih := pk_best key l hg k
    have hlt := pk_lt key l k
    unfold pk at h
    by_cases hk : 0 < (l.getD k (0, 0)).2
    · rw [if_pos hk] at h
      cases hm : pk key l k with
      | none =>
        rw [hm] at h
        injection h with h
        subst h
        rcases Nat.lt_or_ge i k with h2 | h2
        · exact absurd (none_zero key l k hm i h2) (by omega)
        · have : i = k := by omega
          subst this
          exact LE.self key _
      | some q =>
        rw [hm] at h
        simp only at h
        by_cases hs : shB key (l.getD k (0, 0)) (l.getD q (0, 0)) = true
        · rw [if_pos hs] at h
          injection h with h
          subst h
          rcases Nat.lt_or_ge i k with h2 | h2
          · exact (sh_yes hk (hlt q hm).2 hs).trans (hg k) (hg q) (hg i) (ih q hm i h2 hw)
          · have : i = k := by omega
            subst this
            exact LE.self key _
        · rw [if_neg hs] at h
          injection h with h
          subst h
          rcases Nat.lt_or_ge i k with h2 | h2
          · exact ih q hm i h2 hw
          · have : i = k := by omega
            subst this
            exact sh_no hk (hlt q hm).2 hs
    · rw [if_neg hk] at h
      rcases Nat.lt_or_ge i k with h2 | h2
      · exact ih j h i h2 hw
      · have : i = k := by omega
        subst this
        exact absurd hw hk
theorem pk_some (key : Int) (l : List (Int × Int)) (k i : Nat) (hi : i < k) (hw : 0 < (l.getD i (0, 0)).2) : ∃ j, pk key l k = some j := by
  cases h : pk key l k with
  | none => exact absurd hw (none_zero key l k h i hi)
  | some j => exact ⟨j, rfl⟩
/-- One that weighs more is not longer. -/
theorem LE.more {key i w w' : Int} {b : Int × Int} (h0 : 0 < w) (h1 : w ≤ w') (hb : 0 < b.2) (h : LE key (i, w) b) : LE key (i, w') b := by
  have e1 := cmp_cf key (i, w) b h0 hb
  have e2 := cmp_cf key (i, w') b (by simp only; omega) hb
  unfold LE at h ⊢
  rw [← e1] at h
  rw [← e2]
  simp only at h ⊢
  have h2 := lenZ_in key b.1
  have h3 : lenZ key b.1 * w ≤ lenZ key b.1 * w' := Int.mul_le_mul_of_nonneg_left h1 h2.1
  generalize lenZ key i * b.2 = p at *
  generalize lenZ key b.1 * w = q at *
  generalize lenZ key b.1 * w' = r at *
  unfold cmpI at h ⊢
  rcases h with h | ⟨h, h4⟩
  · left
    have : p < q := by
      by_cases hpq : p < q
      · exact hpq
      · rw [if_neg hpq] at h
        split at h <;> omega
    rw [if_pos (by omega)]
    omega
  · have : p = q := by
      by_cases hpq : p < q
      · rw [if_pos hpq] at h; omega
      · rw [if_neg hpq] at h
        split at h <;> omega
    by_cases hr : p < r
    · left
      rw [if_pos hr]
      omega
    · right
      rw [if_neg hr, if_neg (by omega)]
      exact ⟨rfl, h4⟩
theorem moves {key : Int} {l m : List (Int × Int)} (n at' : Nat) (hat : at' < n) (wt : Int) (gl : ∀ i, good (l.getD i (0, 0))) (gm : ∀ i, good (m.getD i (0, 0)))
    (h0 : 0 < (l.getD at' (0, 0)).2) (h1 : 0 < wt) (he : m.getD at' (0, 0) = ((l.getD at' (0, 0)).1, wt)) (ho : ∀ i, i ≠ at' → m.getD i (0, 0) = l.getD i (0, 0))
    (hd : ∀ i k, i < n → k < i → (l.getD i (0, 0)).1 ≠ (l.getD k (0, 0)).1) (a b : Nat) (ha : pk key l n = some a) (hb : pk key m n = some b) (hab : a ≠ b) :
    (((l.getD at' (0, 0)).2 < wt → b = at') ∧ (wt ≤ (l.getD at' (0, 0)).2 → a = at')) := by
  have pa := pk_lt key l n a ha
  have pb := pk_lt key m n b hb
  have dd : ∀ i k, i < n → k < n → i ≠ k → (l.getD i (0, 0)).1 ≠ (l.getD k (0, 0)).1 := fun i k hi hk hik => by
    rcases Nat.lt_or_ge k i with h | h
    · exact hd i k hi h
    · exact fun e => hd k i hk (by omega) e.symm
  have la : ∀ i, i < n → 0 < (l.getD i (0, 0)).2 → LE key (l.getD a (0, 0)) (l.getD i (0, 0)) := pk_best key l gl n a ha
  have lb : ∀ i, i < n → 0 < (m.getD i (0, 0)).2 → LE key (m.getD b (0, 0)) (m.getD i (0, 0)) := pk_best key m gm n b hb
  constructor
  · intro hw
    by_cases hbat : b = at'
    · exact hbat
    exfalso
    have hmb := ho b hbat
    rw [hmb] at pb
    have h2 := la b pb.1 pb.2
    by_cases haat : a = at'
    · subst haat
      have h3 := lb a pa.1 (by rw [he]; exact h1)
      rw [hmb, he] at h3
      have h4 : LE key ((l.getD a (0, 0)).1, wt) (l.getD b (0, 0)) := LE.more (w := (l.getD a (0, 0)).2) h0 (by omega) pb.2 h2
      have h5 := LE.both h4 h3
      exact dd a b pa.1 pb.1 hab h5
    · have h3 := lb a pa.1 (by rw [ho a haat]; exact pa.2)
      rw [hmb, ho a haat] at h3
      exact dd a b pa.1 pb.1 hab (LE.both h2 h3)
  · intro hw
    by_cases haat : a = at'
    · exact haat
    exfalso
    have h3 := lb a pa.1 (by rw [ho a haat]; exact pa.2)
    rw [ho a haat] at h3
    by_cases hbat : b = at'
    · subst hbat
      rw [he] at h3
      have h4 : LE key (l.getD b (0, 0)) (l.getD a (0, 0)) := LE.more (w := wt) (w' := (l.getD b (0, 0)).2) h1 hw pa.2 h3
      have h5 := la b hat h0
      have h6 := LE.both h5 h4
      exact dd a b pa.1 hat hab h6
    · rw [ho b hbat] at h3 pb
      have h2 := la b pb.1 pb.2
      exact dd a b pa.1 pb.1 hab (LE.both h2 h3)
end Go.Proofs.YtoaboklckkcjcaaGreat.strG
/- Layer 26: nodes of which one host weighs otherwise, in plain words. -/
namespace Go.Proofs.YtoaboklckkcjcaaGreat.walkS
open Go.ChangeShapes Go.WideShapes Go.ChangeAt Go.RowKit
open Go.Proofs.YtoaboklckkcjcaaGreat.base Go.Proofs.YtoaboklckkcjcaaGreat.dfA Go.Proofs.YtoaboklckkcjcaaGreat.treB Go.Proofs.YtoaboklckkcjcaaGreat.treD Go.Proofs.YtoaboklckkcjcaaGreat.treG Go.Proofs.YtoaboklckkcjcaaGreat.treM Go.Proofs.YtoaboklckkcjcaaGreat.treW Go.Proofs.YtoaboklckkcjcaaGreat.eliW Go.Proofs.YtoaboklckkcjcaaGreat.strA Go.Proofs.YtoaboklckkcjcaaGreat.strG Go.Proofs.YtoaboklckkcjcaaGreat.wideG Go.Proofs.YtoaboklckkcjcaaGreat.eliB Go.Proofs.YtoaboklckkcjcaaGreat.walkA Go.Proofs.YtoaboklckkcjcaaGreat.walkC Go.Proofs.YtoaboklckkcjcaaGreat.walkE Go.Proofs.YtoaboklckkcjcaaGreat.walkN
set_option linter.unusedVariables false

/-- The same nodes, but for what the node h weighs. -/
structure Like (h : Nat) (m n : List Nd) : Prop where
  len : n.length = m.length
  kind : ∀ i : Int, (ndAt n i).kind = (ndAt m i).kind
  ab : ∀ i : Int, (ndAt n i).ab = (ndAt m i).ab
  wt : ∀ i : Int, i ≠ (h : Int) → (ndAt n i).wt = (ndAt m i).wt
theorem Like.symm {h : Nat} {m n : List Nd} (L : Like h m n) : Like h n m := ⟨L.len.symm, fun i => (L.kind i).symm, fun i => (L.ab i).symm, fun i e => (L.wt i e).symm⟩
section
variable {h : Nat} {m n : List Nd}
theorem upW_like (L : Like h m n) (kd : Int) : ∀ f i, upW n kd f i = upW m kd f i
  | 0, _ => rfl
  | f + 1, i => by
    unfold upW
    rw [L.len, L.kind, L.ab, upW_like L kd f]
theorem upF_like (L : Like h m n) (kd i : Int) : upF n kd i = upF m kd i := upW_like L kd 4 i
theorem belU_like (L : Like h m n) (x a : Nat) : belU n x a = belU m x a := by
  unfold belU
  rw [L.kind, upF_like L]
theorem getD_at {l : List Nd} {b : Nat} (hb : b < l.length) : l.getD b zNd = ndAt l (b : Int) := by
  rw [treW.ndAt_nat hb, List.getD_eq_getElem?_getD, List.getElem?_eq_getElem hb]; rfl
theorem kidsL_like (L : Like h m n) (a : Nat) : ∀ k, k ≤ m.length → kidsL n k a = kidsL m k a
  | 0, _ => rfl
  | k + 1, hk => by
    unfold kidsL
    rw [kidsL_like L a k (by omega)]
    have e : kidB (n.getD k zNd) a = kidB (m.getD k zNd) a := by
      rw [getD_at (l := n) (by rw [L.len]; omega), getD_at (l := m) (by omega)]
      unfold kidB
      rw [L.kind, L.ab]
    rw [e]
theorem kidsP_like (L : Like h m n) (i : Int) : kidsP n i = kidsP m i := by
  unfold kidsP
  rw [L.len, kidsL_like L _ _ (Nat.le_refl _)]
theorem ofK_like (L : Like h m n) (kd : Int) : ofK n kd n.length = ofK m kd m.length := by
  unfold ofK
  rw [L.len]
  congr 1
  apply List.filter_congr
  intro x hx
  have hx2 := List.mem_range.mp hx
  rw [getD_at (l := n) (by rw [L.len]; omega), getD_at (l := m) hx2, L.kind]
theorem pkB_like (L : Like h m n) (hx : (ndAt m h).wt ≠ 0) (hy : (ndAt n h).wt ≠ 0) (H : List Int) (k : Nat) : pkB n H k = pkB m H k := by
  unfold pkB
  rw [L.kind]
  by_cases e : k = h
  · subst e
    have h1 : ((ndAt n (k : Int)).wt == 0) = false := beq_false_of_ne hy
    have h2 : ((ndAt m (k : Int)).wt == 0) = false := beq_false_of_ne hx
    rw [h1, h2]
  · rw [L.wt _ (by omega)]
theorem hasP_like (L : Like h m n) (hx : (ndAt m h).wt ≠ 0) (hy : (ndAt n h).wt ≠ 0) (H : List Int) (i : Nat) : hasP n H i ↔ hasP m H i := by
  unfold hasP
  constructor
  · rintro ⟨k, h1, h2, h3⟩
    exact ⟨k, L.len ▸ h1, by rw [← pkB_like L hx hy]; exact h2, by rw [← belU_like L]; exact h3⟩
  · rintro ⟨k, h1, h2, h3⟩
    exact ⟨k, by rw [L.len]; exact h1, by rw [pkB_like L hx hy]; exact h2, by rw [belU_like L]; exact h3⟩
theorem zero_like (hf : Fine m) (hn : Fine n) (hh : Heavy m) (hg : Heavy n) (L : Like h m n) (hx : (ndAt m h).wt ≠ 0) (hy : (ndAt n h).wt ≠ 0) (H : List Int) {i : Nat} (hi : i < m.length) : F n H i ≠ 0 ↔ F m H i ≠ 0 := by
  rw [F_has hn hg H n.length i (by rw [L.len]; exact hi) (by omega), F_has hf hh H m.length i hi (by omega)]
  exact hasP_like L hx hy H i
theorem SF_zero (hf : Fine m) (hn : Fine n) (hh : Heavy m) (hg : Heavy n) (L : Like h m n) (hx : (ndAt m h).wt ≠ 0) (hy : (ndAt n h).wt ≠ 0) (H : List Int) {i : Nat} (hi : i < m.length) : SF n H i ≠ 0 ↔ SF m H i ≠ 0 := by
  unfold SF
  rw [sumF_ne (fun q => gF_lo hg H i q), sumF_ne (fun q => gF_lo hh H i q), L.len]
  constructor
  · rintro ⟨k, h1, h2⟩
    refine ⟨k, h1, ?_⟩
    unfold gF at h2 ⊢
    rw [L.ab] at h2
    split at h2
    · rename_i e
      rw [if_pos e]
      exact (zero_like hf hn hh hg L hx hy H h1).mp h2
    · exact absurd rfl h2
  · rintro ⟨k, h1, h2⟩
    refine ⟨k, h1, ?_⟩
    unfold gF at h2 ⊢
    rw [L.ab]
    split at h2
    · rename_i e
      rw [if_pos e]
      exact (zero_like hf hn hh hg L hx hy H h1).mpr h2
    · exact absurd rfl h2
/-- Nodes that are not above the host weigh what they did. -/
theorem F_same (hf : Fine m) (hn : Fine n) (L : Like h m n) (hx : (ndAt m h).wt ≠ 0) (hy : (ndAt n h).wt ≠ 0) (hm : h < m.length) (H : List Int) : ∀ d i, i < m.length → m.length - i ≤ d → belU m h i = false → F n H i = F m H i := by
  intro d
  induction d with
  | zero => intro i hi hd; omega
  | succ d ih =>
    intro i hi hd hb
    have hne : i ≠ h := fun e => by subst e; rw [belU_self hi] at hb; cases hb
    have hs : SF n H i = SF m H i := by
      unfold SF
      rw [L.len]
      refine sumF_congr _ fun q hq => ?_
      unfold gF
      rw [L.ab]
      by_cases hab : (ndAt m q).ab = (i : Int)
      · rw [if_pos hab, if_pos hab]
        have hk := kid_kind hf hq hab
        refine ih q hq (by omega) ?_
        cases hbq : belU m h q with
        | false => rfl
        | true => rw [belU_kid hf hm hq hab hbq] at hb; cases hb
      · rw [if_neg hab, if_neg hab]
    rw [F_eq hn H (by rw [L.len]; exact hi), F_eq hf H hi, L.kind, L.wt _ (by omega), hs]
    unfold hw0
    rw [pkB_like L hx hy, L.wt _ (by omega)]
theorem sumF_le {g k : Nat → Int} : ∀ n, (∀ q, q < n → g q ≤ k q) → sumF g n ≤ sumF k n
  | 0, _ => Int.le_refl _
  | n + 1, e => by
    have h1 := sumF_le n (fun q hq => e q (by omega))
    have h2 := e n (by omega)
    show sumF g n + g n ≤ sumF k n + k n
    omega
/-- As the host weighs more, no node weighs less. -/
theorem F_mono (hf : Fine m) (hn : Fine n) (hh : Heavy m) (hg : Heavy n) (L : Like h m n) (hx : (ndAt m h).wt ≠ 0) (hy : (ndAt n h).wt ≠ 0) (h4 : (ndAt m h).kind = 4) (hle : (ndAt m h).wt ≤ (ndAt n h).wt) (H : List Int) : ∀ d i, i < m.length → m.length - i ≤ d → F m H i ≤ F n H i := by
  intro d
  induction d with
  | zero => intro i hi hd; omega
  | succ d ih =>
    intro i hi hd
    rw [F_eq hn H (by rw [L.len]; exact hi), F_eq hf H hi, L.kind]
    by_cases hk : (ndAt m i).kind = 4
    · rw [if_pos hk, if_pos hk]
      unfold hw0
      rw [pkB_like L hx hy]
      by_cases e : i = h
      · subst e
        split <;> omega
      · rw [L.wt _ (by omega)]
        exact Int.le_refl _
    · rw [if_neg hk, if_neg hk]
      have hne : i ≠ h := fun e => by subst e; exact hk h4
      rw [L.wt _ (by omega)]
      have hs : SF m H i ≤ SF n H i := by
        unfold SF
        rw [L.len]
        refine sumF_le _ fun q hq => ?_
        unfold gF
        rw [L.ab]
        by_cases hab : (ndAt m q).ab = (i : Int)
        · rw [if_pos hab, if_pos hab]
          have hk := kid_kind hf hq hab
          exact ih q hq (by omega)
        · rw [if_neg hab, if_neg hab]
          exact Int.le_refl _
      have hz := SF_zero hf hn hh hg L hx hy H hi
      by_cases h1 : (ndAt m (i : Int)).wt ≠ 0 ∧ SF m H i ≠ 0
      · rw [if_pos h1, if_pos ⟨h1.1, hz.mpr h1.2⟩]
        exact Int.le_refl _
      · rw [if_neg h1, if_neg (fun h2 => h1 ⟨h2.1, hz.mp h2.2⟩)]
        exact hs
/-- What has a fixed weight weighs what it did. -/
theorem F_fixed (hf : Fine m) (hn : Fine n) (hh : Heavy m) (hg : Heavy n) (L : Like h m n) (hx : (ndAt m h).wt ≠ 0) (hy : (ndAt n h).wt ≠ 0) (h4 : (ndAt m h).kind = 4) (H : List Int) {i : Nat} (hi : i < m.length) (hk : (ndAt m i).kind ≠ 4) (hw : (ndAt m i).wt ≠ 0) : F n H i = F m H i := by
  have hne : i ≠ h := fun e => by subst e; exact hk h4
  rw [F_eq hn H (by rw [L.len]; exact hi), F_eq hf H hi, L.kind, if_neg hk, if_neg hk, L.wt _ (by omega)]
  have hz := SF_zero hf hn hh hg L hx hy H hi
  by_cases h1 : SF m H i ≠ 0
  · rw [if_pos (show (ndAt m (i : Int)).wt ≠ 0 ∧ SF n H i ≠ 0 from ⟨hw, hz.mpr h1⟩), if_pos (show (ndAt m (i : Int)).wt ≠ 0 ∧ SF m H i ≠ 0 from ⟨hw, h1⟩)]
  · have h2 : ¬ SF n H i ≠ 0 := fun e => h1 (hz.mp e)
    rw [if_neg (show ¬ ((ndAt m (i : Int)).wt ≠ 0 ∧ SF n H i ≠ 0) from fun e => h2 e.2), if_neg (show ¬ ((ndAt m (i : Int)).wt ≠ 0 ∧ SF m H i ≠ 0) from fun e => h1 e.2)]
    rw [Decidable.not_not.mp h1, Decidable.not_not.mp h2]
theorem step_like (L : Like h m n) {W W' : Nat → Int} (seed key a : Int) (e : ∀ x ∈ kidsP m a, wtOf n W' x = wtOf m W x) : stepW n W' seed key a = stepW m W seed key a := by
  have hi : itemsW n W' a = itemsW m W a := by
    unfold itemsW
    rw [kidsP_like L]
    exact List.map_congr_left fun x hx => by rw [e x hx]
  unfold stepW
  rw [hi, kidsP_like L]
theorem kidsL_sorted (m : List Nd) (a : Nat) : ∀ k, (kidsL m k a).Pairwise (· < ·)
  | 0 => List.Pairwise.nil
  | k + 1 => by
    unfold kidsL
    split
    · refine List.pairwise_append.mpr ⟨kidsL_sorted m a k, List.pairwise_singleton _ _, fun x hx y hy => ?_⟩
      have := kidsL_in m k a x hx
      rw [List.mem_singleton.mp hy]
      omega
    · exact kidsL_sorted m a k
theorem kids_ne {m : List Nd} {a : Nat} (ha : a < m.length) {i j : Nat} (hi : i < (kidsP m (a : Int)).length) (hj : j < i) : (kidsP m (a : Int))[j]'(by omega) < (kidsP m (a : Int))[i] := by
  have h1 := kidsL_sorted m a m.length
  rw [← kidsP_nat ha] at h1
  exact List.pairwise_iff_getElem.mp h1 j i _ _ hj
end
end Go.Proofs.YtoaboklckkcjcaaGreat.walkS
/- Layer 26: where ways part as one host weighs otherwise, in plain words. -/
namespace Go.Proofs.YtoaboklckkcjcaaGreat.walkT
open Go.ChangeShapes Go.WideShapes Go.ChangeAt Go.RowKit
open Go.Proofs.YtoaboklckkcjcaaGreat.base Go.Proofs.YtoaboklckkcjcaaGreat.dfA Go.Proofs.YtoaboklckkcjcaaGreat.treB Go.Proofs.YtoaboklckkcjcaaGreat.treD Go.Proofs.YtoaboklckkcjcaaGreat.treG Go.Proofs.YtoaboklckkcjcaaGreat.treM Go.Proofs.YtoaboklckkcjcaaGreat.treW Go.Proofs.YtoaboklckkcjcaaGreat.eliW Go.Proofs.YtoaboklckkcjcaaGreat.strA Go.Proofs.YtoaboklckkcjcaaGreat.strG Go.Proofs.YtoaboklckkcjcaaGreat.wideG Go.Proofs.YtoaboklckkcjcaaGreat.eliB Go.Proofs.YtoaboklckkcjcaaGreat.walkA Go.Proofs.YtoaboklckkcjcaaGreat.walkC Go.Proofs.YtoaboklckkcjcaaGreat.walkE Go.Proofs.YtoaboklckkcjcaaGreat.walkN Go.Proofs.YtoaboklckkcjcaaGreat.walkS
set_option linter.unusedVariables false

theorem items_good {m : List Nd} (hf : Fine m) (hh : Heavy m) (hm60 : m.length ≤ 60) (H : List Int) (a : Int) (i : Nat) : good ((itemsW m (F m H) a).getD i (0, 0)) := by
  by_cases hi : i < (kidsP m a).length
  · rw [items_at m _ a i hi]
    have h1 := kidsP_in (List.getElem_mem hi)
    obtain ⟨b, hb⟩ : ∃ b : Nat, (kidsP m a)[i] = (b : Int) := ⟨((kidsP m a)[i]).toNat, by omega⟩
    rw [hb] at h1 ⊢
    rw [wt_nat (by omega)]
    have h2 := walkK.F_in hf hh hm60 H b
    exact ⟨⟨by simp only; omega, by simp only; omega⟩, h2.1, h2.2⟩
  · rw [List.getD_eq_getElem?_getD, List.getElem?_eq_none (by rw [items_len]; omega)]
    exact ⟨⟨by decide, by decide⟩, by decide, by decide⟩
/-- What two steps come to that differ: n's host weighs more. -/
structure Fork (m : List Nd) (h a : Nat) (s s' : Int) : Prop where
  up : belU m h a = true
  ex : ∃ q r : Nat, q < m.length ∧ r < m.length ∧ s' = (q : Int) ∧ s = (r : Int) ∧ (ndAt m q).ab = (a : Int) ∧ (ndAt m r).ab = (a : Int) ∧ belU m h q = true ∧ belU m h r = false ∧ ((ndAt m q).kind ≠ 4 → (ndAt m q).wt = 0)
section
variable {h : Nat} {m n : List Nd}
theorem step_fork (hf : Fine m) (hn : Fine n) (hh : Heavy m) (hg : Heavy n) (hm60 : m.length ≤ 60) (L : Like h m n) (hm : h < m.length) (h4 : (ndAt m h).kind = 4) (hx : (ndAt m h).wt ≠ 0) (hy : (ndAt n h).wt ≠ 0) (hle : (ndAt m h).wt ≤ (ndAt n h).wt) (H : List Int) (hp : F m H h ≠ 0) (seed key : Int) {a : Nat} (ha : a < m.length) (hk4 : (ndAt m a).kind ≠ 4)
    (hne : stepW n (F n H) seed key a ≠ stepW m (F m H) seed key a) : Fork m h a (stepW m (F m H) seed key a) (stepW n (F n H) seed key a) := by
  have hmn : n.length = m.length := L.len
  have kid : ∀ i (hi : i < (kidsP m (a : Int)).length), ∃ b : Nat, (kidsP m (a : Int))[i] = (b : Int) ∧ b < m.length ∧ (ndAt m b).ab = (a : Int) := fun i hi => by
    have hmem : (kidsP m (a : Int))[i] ∈ kidsL m m.length a := by
      have h1 := List.getElem_mem hi
      generalize (kidsP m (a : Int))[i] = x at *
      rwa [kidsP_nat ha] at h1
    obtain ⟨b, e, hb, hkb⟩ := kidsL_ab m _ _ _ hmem
    exact ⟨b, e, hb, kid_ab hb hkb⟩
  have hup : belU m h a = true := by
    cases hb : belU m h a with
    | true => rfl
    | false =>
      exfalso
      refine hne (step_like L seed key a fun x hx2 => ?_)
      obtain ⟨i, hi, rfl⟩ := List.getElem_of_mem hx2
      obtain ⟨b, e, hbl, hab⟩ := kid i hi
      rw [e, wt_nat (by omega), wt_nat hbl]
      refine F_same hf hn L hx hy hm H m.length b hbl (by omega) ?_
      cases hbb : belU m h b with
      | false => rfl
      | true => rw [belU_kid hf hm hbl hab hbb] at hb; cases hb
  obtain ⟨q, hq, hqa, hqb⟩ := belU_via hf hm ha h4 hk4 hup
  have hqk := kid_kind hf hq hqa
  have other : ∀ b, b < m.length → (ndAt m b).ab = (a : Int) → b ≠ q → belU m h b = false := fun b hb hab hbq => by
    cases hbb : belU m h b with
    | false => rfl
    | true =>
      exfalso
      have hbk := kid_kind hf hb hab
      unfold belU at hbb hqb
      have e1 : upF m (ndAt m b).kind (h : Int) = (b : Int) := by simpa using hbb
      have e2 : upF m (ndAt m q).kind (h : Int) = (q : Int) := by simpa using hqb
      rw [hbk.2.2.1, ← hqk.2.2.1] at e1
      rw [e1] at e2
      omega
  have diff : ¬ F n H q = F m H q := fun e => by
    refine hne (step_like L seed key a fun x hx2 => ?_)
    obtain ⟨i, hi, rfl⟩ := List.getElem_of_mem hx2
    obtain ⟨b, eb, hbl, hab⟩ := kid i hi
    rw [eb, wt_nat (by omega), wt_nat hbl]
    by_cases hbq : b = q
    · subst hbq; exact e
    · exact F_same hf hn L hx hy hm H m.length b hbl (by omega) (other b hbl hab hbq)
  have hqle := F_mono hf hn hh hg L hx hy h4 hle H m.length q hq (by omega)
  have hqz : F m H q ≠ 0 := by
    rw [F_has hf hh H m.length q hq (by omega)]
    obtain ⟨k, hk, hpk, hbk⟩ := (F_has hf hh H m.length h hm (by omega)).mp hp
    refine ⟨h, hm, ?_, hqb⟩
    have e1 := F_eq hf H hm
    rw [if_pos h4] at e1
    unfold hw0 at e1
    by_cases e : pkB m H h = true
    · exact e
    · rw [if_neg e] at e1; exact absurd e1 hp
  have hqp := F_lo hh H q
  have hmem : (q : Int) ∈ kidsP m (a : Int) := by
    rw [kidsP_nat ha]
    exact kidsL_mem m a q (kid_b hf hq hqa) m.length hq
  obtain ⟨j, hj, hjq⟩ := List.getElem_of_mem hmem
  have hkl := kidsP_like L (a : Int)
  obtain ⟨K, hK⟩ : ∃ K, K = mixD.ofZ seed [key, IntKind.u64.wrap (a : Int)] := ⟨_, rfl⟩
  have l1 := items_len m (F m H) (a : Int)
  have l2 := items_len n (F n H) (a : Int)
  have hl2 : (itemsW n (F n H) (a : Int)).length = (itemsW m (F m H) (a : Int)).length := by rw [l1, l2, hkl]
  have i1 : (itemsW m (F m H) (a : Int)).getD j (0, 0) = ((q : Int), F m H q) := by rw [items_at m _ _ j hj, hjq, wt_nat hq]
  have at2 : ∀ i (hi : i < (kidsP m (a : Int)).length), (itemsW n (F n H) (a : Int)).getD i (0, 0) = ((kidsP m (a : Int))[i], wtOf n (F n H) (kidsP m (a : Int))[i]) := fun i hi => by
    have := items_at n (F n H) (a : Int) i (by rw [hkl]; exact hi)
    rw [this]
    simp only [hkl]
  have i2 : (itemsW n (F n H) (a : Int)).getD j (0, 0) = ((q : Int), F n H q) := by rw [at2 j hj, hjq, wt_nat (by omega)]
  have io : ∀ i, i ≠ j → (itemsW n (F n H) (a : Int)).getD i (0, 0) = (itemsW m (F m H) (a : Int)).getD i (0, 0) := fun i hij => by
    by_cases hi : i < (kidsP m (a : Int)).length
    · rw [at2 i hi, items_at m _ _ i hi]
      obtain ⟨b, eb, hbl, hab⟩ := kid i hi
      rw [eb, wt_nat (by omega), wt_nat hbl]
      have hbq : b ≠ q := fun e => by
        subst e
        rcases Nat.lt_or_gt_of_ne hij with h1 | h1
        · have := kids_ne ha hj h1
          rw [hjq, eb] at this
          omega
        · have := kids_ne ha hi h1
          rw [hjq, eb] at this
          omega
      rw [F_same hf hn L hx hy hm H m.length b hbl (by omega) (other b hbl hab hbq)]
    · rw [List.getD_eq_getElem?_getD, List.getD_eq_getElem?_getD, List.getElem?_eq_none (by rw [l2, hkl]; omega), List.getElem?_eq_none (by rw [l1]; omega)]
  have hd : ∀ i k, i < (itemsW m (F m H) (a : Int)).length → k < i → ((itemsW m (F m H) (a : Int)).getD i (0, 0)).1 ≠ ((itemsW m (F m H) (a : Int)).getD k (0, 0)).1 := fun i k hi hki => by
    rw [l1] at hi
    rw [items_at m _ _ i hi, items_at m _ _ k (by omega)]
    have := kids_ne ha hi hki
    show (kidsP m (a : Int))[i] ≠ (kidsP m (a : Int))[k]
    omega
  have gl := items_good hf hh hm60 H (a : Int)
  have gm := items_good hn hg (by rw [hmn]; exact hm60) H (a : Int)
  obtain ⟨pa, hpa⟩ := pk_some K (itemsW m (F m H) (a : Int)) (itemsW m (F m H) (a : Int)).length j (by omega) (by rw [i1]; show 0 < F m H q; omega)
  obtain ⟨pb, hpb⟩ := pk_some K (itemsW n (F n H) (a : Int)) (itemsW m (F m H) (a : Int)).length j (by omega) (by rw [i2]; show 0 < F n H q; omega)
  have e1 : stepW m (F m H) seed key (a : Int) = (kidsP m (a : Int)).getD pa 0 := by
    unfold stepW
    rw [← hK, hpa]
    rfl
  have e2 : stepW n (F n H) seed key (a : Int) = (kidsP m (a : Int)).getD pb 0 := by
    unfold stepW
    rw [← hK, hl2, hpb, hkl]
    rfl
  have pal := (pk_lt _ _ _ _ hpa).1
  have pbl := (pk_lt _ _ _ _ hpb).1
  have hab : pa ≠ pb := fun e => by subst e; exact hne (by rw [e1, e2])
  have hmv := moves (key := K) (l := itemsW m (F m H) (a : Int)) (m := itemsW n (F n H) (a : Int)) (itemsW m (F m H) (a : Int)).length j (by omega) (F n H q) gl gm (by rw [i1]; show 0 < F m H q; omega) (by omega) (by rw [i1, i2]) io hd pa pb hpa hpb hab
  have hbj : pb = j := hmv.1 (by rw [i1]; show F m H q < F n H q; omega)
  subst hbj
  have es : stepW n (F n H) seed key (a : Int) = (q : Int) := by
    rw [e2, List.getD_eq_getElem?_getD, List.getElem?_eq_getElem hj, hjq]; rfl
  obtain ⟨r, er, hrl, hra⟩ := kid pa (by omega)
  have es2 : stepW m (F m H) seed key (a : Int) = (r : Int) := by
    rw [e1, List.getD_eq_getElem?_getD, List.getElem?_eq_getElem (by omega), ← er]; rfl
  have hrq : r ≠ q := fun e => hne (by rw [es, es2, e])
  refine ⟨hup, q, r, hq, hrl, es, es2, hqa, hra, hqb, other r hrl hra hrq, fun hk => ?_⟩
  by_cases hw : (ndAt m (q : Int)).wt = 0
  · exact hw
  · exact absurd (F_fixed hf hn hh hg L hx hy h4 H hq hk hw) diff
theorem step_some (hf : Fine m) (hh : Heavy m) (H : List Int) (seed key : Int) {a : Nat} (ha : a < m.length) (h4 : (ndAt m a).kind ≠ 4) (hz : F m H a ≠ 0) : ∃ c : Nat, stepW m (F m H) seed key (a : Int) = (c : Int) ∧ c < m.length ∧ (ndAt m c).ab = (a : Int) ∧ F m H c ≠ 0 := by
  have hS : SF m H a ≠ 0 := fun h0 => by
    have h1 := F_eq hf H ha
    rw [if_neg h4, h0, if_neg (by simp)] at h1
    exact hz h1
  obtain ⟨b, hb, hg⟩ := (sumF_ne (g := gF m H a) (fun q => gF_lo hh H a q) m.length).mp hS
  have hab : (ndAt m b).ab = (a : Int) := by
    unfold gF at hg
    by_cases e : (ndAt m b).ab = (a : Int)
    · exact e
    · rw [if_neg e] at hg; exact absurd rfl hg
  have hFb : F m H b ≠ 0 := by unfold gF at hg; rwa [if_pos hab] at hg
  have hmem : (b : Int) ∈ kidsP m (a : Int) := by
    rw [kidsP_nat ha]
    exact kidsL_mem m a b (kid_b hf hb hab) m.length hb
  obtain ⟨i, hi, hix⟩ := List.getElem_of_mem hmem
  unfold stepW
  rcases hp : pk (mixD.ofZ seed [key, IntKind.u64.wrap (a : Int)]) (itemsW m (F m H) a) (itemsW m (F m H) a).length with _ | j
  · have h1 := pk_none _ _ _ hp i (by rw [items_len]; exact hi)
    rw [items_at m (F m H) a i hi, hix] at h1
    have h2 := F_lo hh H b
    have h3 : ¬ 0 < wtOf m (F m H) (b : Int) := h1
    rw [wt_nat hb] at h3
    omega
  · have h1 := pk_lt _ _ _ j hp
    rw [items_len] at h1
    rw [items_at m (F m H) a j h1.1] at h1
    have h2 : 0 < wtOf m (F m H) (kidsP m a)[j] := h1.2
    have hm := List.getElem_mem h1.1
    have hin := kidsP_in hm
    obtain ⟨c, hc⟩ : ∃ c : Nat, (kidsP m (a : Int))[j] = (c : Int) := ⟨((kidsP m (a : Int))[j]).toNat, by omega⟩
    rw [hc] at h2 hm hin
    rw [wt_nat (by omega)] at h2
    refine ⟨c, ?_, by omega, ?_, by omega⟩
    · show (kidsP m (a : Int)).getD j 0 = _
      rw [List.getD_eq_getElem?_getD, List.getElem?_eq_getElem h1.1]
      exact hc
    · rw [kidsP_nat ha] at hm
      obtain ⟨c', e, hc', hkb⟩ := kidsL_ab m _ _ _ hm
      have : c' = c := by omega
      subst this
      exact kid_ab hc' hkb
theorem way_head {W : Nat → Int} {seed key a : Int} {f : Nat} {l : List Int} (e : wayF m W seed key f a = some l) : l[0]? = some a := by
  cases f with
  | zero => cases e
  | succ f =>
    unfold wayF at e
    split at e
    · injection e with e; subst e; rfl
    · split at e
      · cases e
      · rw [Option.map_eq_some_iff] at e
        obtain ⟨x, _, rfl⟩ := e
        rfl
theorem way_len (hf : Fine m) {W : Nat → Int} {seed key : Int} : ∀ (f : Nat) (a : Int) (l : List Int), wayF m W seed key f a = some l → (l.length : Int) + (ndAt m a).kind = 5
  | 0, a, l, e => by cases e
  | f + 1, a, l, e => by
    unfold wayF at e
    split at e
    · rename_i hk
      injection e with e; subst e
      have : (ndAt m a).kind = 4 := by simpa using hk
      simp [this]
    · split at e
      · cases e
      · rename_i hs
        rw [Option.map_eq_some_iff] at e
        obtain ⟨x, hx, rfl⟩ := e
        have h1 := way_len hf f _ x hx
        have h2 := (step_kind hf hs).2.2
        rw [List.length_cons]
        omega
/-- Two ways are the same, or part above the host, and only the second one goes on towards it. -/
def Parted (m : List Nd) (h : Nat) (l l' : List Int) : Prop := l = l' ∨ ∃ k p q r : Nat, 1 ≤ k ∧ k < l.length ∧ p < m.length ∧ q < m.length ∧ r < m.length ∧ (∀ i, i < k → l[i]? = l'[i]?) ∧ l'[k - 1]? = some (p : Int) ∧ l[k - 1]? = some (p : Int) ∧ l'[k]? = some (q : Int) ∧ l[k]? = some (r : Int) ∧ (q ≠ r ∧ (ndAt m q).kind ≠ 1) ∧ belU m h p = true ∧ belU m h q = true ∧ belU m h r = false ∧ ((ndAt m q).kind ≠ 4 → (ndAt m q).wt = 0) ∧ ((ndAt m q).kind = 4 → l'.getLast? = some (q : Int))
theorem Parted.cons {l l' : List Int} (h1 : Parted m h l l') (a : Int) : Parted m h (a :: l) (a :: l') := by
  rcases h1 with rfl | ⟨k, p, q, r, a1, a2, a3, a4, a5, a6, a7, a8, a9, a10, a11, a12, a13, a14, a15, a16⟩
  · exact .inl rfl
  · refine .inr ⟨k + 1, p, q, r, by omega, by rw [List.length_cons]; omega, a3, a4, a5, fun i hi => ?_, ?_, ?_, ?_, ?_, a11, a12, a13, a14, a15, fun hk => ?_⟩
    · cases i with
      | zero => rfl
      | succ i => rw [List.getElem?_cons_succ, List.getElem?_cons_succ]; exact a6 i (by omega)
    · obtain ⟨k, rfl⟩ : ∃ j, k = j + 1 := ⟨k - 1, by omega⟩
      exact a7
    · obtain ⟨k, rfl⟩ : ∃ j, k = j + 1 := ⟨k - 1, by omega⟩
      exact a8
    · exact a9
    · exact a10
    · rw [List.getLast?_cons, a16 hk]; rfl
theorem ways (hf : Fine m) (hn : Fine n) (hh : Heavy m) (hg : Heavy n) (hm60 : m.length ≤ 60) (L : Like h m n) (hm : h < m.length) (h4 : (ndAt m h).kind = 4) (hx : (ndAt m h).wt ≠ 0) (hy : (ndAt n h).wt ≠ 0) (hle : (ndAt m h).wt ≤ (ndAt n h).wt) (H : List Int) (hp : F m H h ≠ 0) (seed key : Int) :
    ∀ (f a : Nat), a < m.length → 5 ≤ (f : Int) + (ndAt m a).kind → F m H a ≠ 0 → ∃ l l', wayF m (F m H) seed key f (a : Int) = some l ∧ wayF n (F n H) seed key f (a : Int) = some l' ∧ Parted m h l l'
  | 0, a, ha, hk, hz => by
    rw [treW.ndAt_nat ha] at hk
    have := hf.hi a ha
    omega
  | f + 1, a, ha, hk, hz => by
    unfold wayF
    rw [L.kind]
    by_cases hk4 : (ndAt m a).kind = 4
    · rw [if_pos (by simpa using hk4), if_pos (by simpa using hk4)]
      exact ⟨_, _, rfl, rfl, .inl rfl⟩
    · have hk5 : ¬ ((ndAt m (a : Int)).kind == 4) = true := by simpa using hk4
      rw [if_neg hk5, if_neg hk5]
      have hk4' : (ndAt n a).kind ≠ 4 := by rw [L.kind]; exact hk4
      have hz' : F n H a ≠ 0 := (zero_like hf hn hh hg L hx hy H ha).mpr hz
      obtain ⟨c, ec, hc, hca, hcz⟩ := step_some hf hh H seed key ha hk4 hz
      obtain ⟨d, ed, hd, hda, hdz⟩ := step_some hn hg H seed key (by rw [L.len]; exact ha) hk4' hz'
      rw [L.len] at hd
      rw [L.ab] at hda
      have hck := (kid_kind hf hc hca).2.2.1
      have hdk := (kid_kind hf hd hda).2.2.1
      rw [ec, ed, if_neg (show ¬ (c : Int) = -1 by omega), if_neg (show ¬ (d : Int) = -1 by omega)]
      by_cases hcd : d = c
      · subst hcd
        obtain ⟨l, l', e1, e2, hP⟩ := ways hf hn hh hg hm60 L hm h4 hx hy hle H hp seed key f d hd (by omega) hcz
        rw [e1, e2]
        exact ⟨_, _, rfl, rfl, hP.cons _⟩
      · have hF := step_fork hf hn hh hg hm60 L hm h4 hx hy hle H hp seed key ha hk4 (by rw [ec, ed]; omega)
        obtain ⟨hup, q, r, hq, hr, eq1, er1, hqa, hra, hqb, hrb, hqw⟩ := hF
        have e1 : d = q := by omega
        have e2 : c = r := by omega
        subst e1 e2
        obtain ⟨l, _, w1, _⟩ := some_way hf hh H seed key f c hc (by omega) hcz
        obtain ⟨l', _, w2, _⟩ := some_way hn hg H seed key f d (by rw [L.len]; exact hd) (by rw [L.kind]; omega) hdz
        rw [w1, w2]
        have n1 := way_head w1
        have n2 := way_head w2
        have l1 := way_len hf _ _ _ w1
        refine ⟨_, _, rfl, rfl, .inr ⟨1, a, d, c, Nat.le_refl _, ?_, ha, hd, hc, fun i hi => ?_, rfl, rfl, n2, n1, ⟨hcd, (kid_kind hf hd hda).2.2.2⟩, hup, hqb, hrb, hqw, fun hk9 => ?_⟩⟩
        · rw [List.length_cons]
          have := (hf.hi c hc)
          rw [← treW.ndAt_nat hc] at this
          omega
        · have : i = 0 := by omega
          subst this
          rfl
        · have hl' : l' = [(d : Int)] := by
            cases f with
            | zero => cases w2
            | succ f =>
              unfold wayF at w2
              rw [if_pos (by rw [L.kind]; simpa using hk9)] at w2
              injection w2 with w2
              exact w2.symm
          rw [hl']
          rfl
end
end Go.Proofs.YtoaboklckkcjcaaGreat.walkT
