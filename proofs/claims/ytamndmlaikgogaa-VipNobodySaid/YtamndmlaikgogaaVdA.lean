/- Layer 19: balanced addresses, views and configurations in plain words. -/
import Derived.Test.YtamndmlaikgogaaVdD
import Derived.Test.YtamndmlaikgogaaTreM
import Derived.Test.YtamndmlaikgogaaOpenNodes
namespace Go.Proofs.Ytamndmlaikgogaa.vdA
open Go.ChangeShapes Go.WideShapes Go.ChangeAt Go.RowKit
open Go.Proofs.Ytamndmlaikgogaa.base Go.Proofs.Ytamndmlaikgogaa.dfA Go.Proofs.Ytamndmlaikgogaa.treB Go.Proofs.Ytamndmlaikgogaa.treD Go.Proofs.Ytamndmlaikgogaa.treG Go.Proofs.Ytamndmlaikgogaa.treH Go.Proofs.Ytamndmlaikgogaa.treI Go.Proofs.Ytamndmlaikgogaa.vdD
set_option linter.unusedVariables false

theorem rows_below {w w' : World} {A : Option Addr} {n k : Nat} {f : Nat → List Value} (h : RowsOf w A n k f) (hb : Below w.heap.size w w') : RowsOf w' A n k f := by
  rcases h with h0 | ⟨b, off, h1, h2, h3⟩
  · exact .inl h0
  · exact .inr ⟨b, off, h1, Nat.lt_of_lt_of_le h2 hb.size, fun j hj i hi => (hb.cell (p := ⟨b, off + j * k + i, none⟩) h2).trans (h3 j hj i hi)⟩
theorem rows_at {w : World} {A : Option Addr} {n k : Nat} {f : Nat → List Value} (h : RowsOf w A n k f) (j : Nat) (hj : j < n) : ∃ b off, A = some ⟨b, off, none⟩ ∧ b < w.heap.size ∧ ∀ i, i < k → w.cell? ⟨b, off + j * k + i, none⟩ = (f j)[i]? := by
  rcases h with h0 | ⟨b, off, h1, h2, h3⟩
  · omega
  · exact ⟨b, off, h1, h2, h3 j hj⟩
theorem rows_take {w : World} {A : Option Addr} {n k : Nat} {f g : Nat → List Value} (h : RowsOf w A n k f) (m : Nat) (hm : m ≤ n) (e : ∀ j, j < m → f j = g j) : RowsOf w A m k g := by
  rcases h with h0 | ⟨b, off, h1, h2, h3⟩
  · exact .inl (by omega)
  · exact .inr ⟨b, off, h1, h2, fun j hj i hi => by rw [h3 j (by omega) i hi, e j hj]⟩
/-- An address that is balanced. -/
structure Vp where
  v6 : Bool
  hi : Int
  lo : Int
  pr : Int
  po : Int
  co : Int
  nat : Bool
def Vp.cells (e : Vp) : Array Value := #[.bool e.v6, .int .u64 e.hi, .int .u64 e.lo, .int .i64 e.pr, .int .i64 e.po, .int .i64 e.co, .bool e.nat]
def zVp : Vp := ⟨false, 0, 0, 0, 0, 0, false⟩
/-- A view. -/
structure Vw where
  v6 : Bool
  hi : Int
  lo : Int
  bits : Int
  lev : Int
def Vw.cells (e : Vw) : Array Value := #[.bool e.v6, .int .u64 e.hi, .int .u64 e.lo, .int .i64 e.bits, .int .i64 e.lev]
def zVw : Vw := ⟨false, 0, 0, 0, 0⟩
def RdV (w : World) (A : Option Addr) (l : List Vp) : Prop := RowsOf w A l.length 7 (fun j => (l.getD j zVp).cells.toList)
def RdW (w : World) (A : Option Addr) (l : List Vw) : Prop := RowsOf w A l.length 5 (fun j => (l.getD j zVw).cells.toList)
/-- The first of f 0, f 1, .. that is not 0. -/
def fstE (f : Nat → Int) : Nat → Int
  | 0 => 0
  | k + 1 => if fstE f k = 0 then f k else fstE f k
theorem fst_next {f : Nat → Int} {k : Nat} (h : fstE f k = 0) : fstE f (k + 1) = f k := by
  show (if fstE f k = 0 then f k else fstE f k) = _
  rw [if_pos h]
theorem fst_stay {f : Nat → Int} {k : Nat} (h : fstE f k ≠ 0) : ∀ n, fstE f (k + n) = fstE f k
  | 0 => rfl
  | n + 1 => by
    show (if fstE f (k + n) = 0 then f (k + n) else fstE f (k + n)) = _
    rw [fst_stay h n, if_neg h]
theorem fst_stop {f : Nat → Int} {k n : Nat} (h : fstE f k = 0) (h2 : f k ≠ 0) (hn : k < n) : fstE f n = f k := by
  obtain ⟨d, rfl⟩ : ∃ d, n = k + 1 + d := ⟨n - (k + 1), by omega⟩
  have e := fst_next h
  rw [fst_stay (by rw [e]; exact h2) d, e]
theorem fst_zero {f : Nat → Int} {n : Nat} (h : ∀ j, j < n → f j = 0) : fstE f n = 0 := by
  induction n with
  | zero => rfl
  | succ k ih => rw [fst_next (ih fun j hj => h j (by omega))]; exact h k (by omega)
theorem fst_all {f : Nat → Int} {n : Nat} (h : fstE f n = 0) : ∀ j, j < n → f j = 0 := by
  induction n with
  | zero => intro j hj; omega
  | succ k ih =>
    intro j hj
    by_cases hk : fstE f k = 0
    · by_cases e : j = k
      · subst e; rw [fst_next hk] at h; exact h
      · exact ih hk j (by omega)
    · exact absurd ((fst_stay hk 1).symm.trans h) hk
theorem fst_congr {f g : Nat → Int} {n : Nat} (h : ∀ j, j < n → f j = g j) : fstE f n = fstE g n := by
  induction n with
  | zero => rfl
  | succ k ih =>
    show (if fstE f k = 0 then f k else fstE f k) = (if fstE g k = 0 then g k else fstE g k)
    rw [ih fun j hj => h j (by omega), h k (by omega)]
/-- Why an address may not be balanced, for itself alone. -/
def vipZ (e : Vp) : Int := if rightB e.v6 e.hi e.lo = false then 18 else if e.pr ≠ 6 ∧ e.pr ≠ 17 then 14 else if e.po < 0 ∨ 65535 < e.po ∨ e.co < 1 ∨ 8 < e.co ∨ (1 < e.co ∧ e.pr ≠ 17) then 5 else 0
def twV (x e : Vp) : Bool := (x.v6 == e.v6 && x.hi == e.hi && x.lo == e.lo) && x.pr == e.pr && x.po == e.po
def hasV (l : List Vp) (e : Vp) (k : Nat) : Bool := (List.range k).any fun j => twV (l.getD j zVp) e
theorem hasV_next {l : List Vp} {e : Vp} {k : Nat} : hasV l e (k + 1) = (hasV l e k || twV (l.getD k zVp) e) := by
  unfold hasV; rw [List.range_succ, List.any_append]; simp
theorem hasV_here {l : List Vp} {e : Vp} {k n : Nat} (hk : k < n) (h : twV (l.getD k zVp) e = true) : hasV l e n = true := by
  unfold hasV; rw [List.any_eq_true]; exact ⟨k, by simpa using hk, h⟩
def vipW (l : List Vp) (k : Nat) : Int := if vipZ (l.getD k zVp) ≠ 0 then vipZ (l.getD k zVp) else if hasV l (l.getD k zVp) k = true then 8 else 0
def vipsE (l : List Vp) : Int := fstE (vipW l) l.length
/-- Why a view may not be, for itself alone. -/
def viewZ (lev : Int) (e : Vw) : Int := if prB e.v6 e.hi e.lo e.bits = false then 18 else if e.lev < 0 ∨ lev ≤ e.lev then 5 else 0
def twW (x e : Vw) : Bool := (x.v6 == e.v6 && x.hi == e.hi && x.lo == e.lo) && x.bits == e.bits
def hasW (l : List Vw) (e : Vw) (k : Nat) : Bool := (List.range k).any fun j => twW (l.getD j zVw) e
theorem hasW_next {l : List Vw} {e : Vw} {k : Nat} : hasW l e (k + 1) = (hasW l e k || twW (l.getD k zVw) e) := by
  unfold hasW; rw [List.range_succ, List.any_append]; simp
theorem hasW_here {l : List Vw} {e : Vw} {k n : Nat} (hk : k < n) (h : twW (l.getD k zVw) e = true) : hasW l e n = true := by
  unfold hasW; rw [List.any_eq_true]; exact ⟨k, by simpa using hk, h⟩
def viewW (lev : Int) (l : List Vw) (k : Nat) : Int := if viewZ lev (l.getD k zVw) ≠ 0 then viewZ lev (l.getD k zVw) else if hasW l (l.getD k zVw) k = true then 8 else 0
def viewsE (lev : Int) (l : List Vw) : Int := fstE (viewW lev l) l.length
/-- A configuration: what its cells say. -/
structure Cf where
  nA : Option Addr
  nc : Nat
  nds : List Nd
  vA : Option Addr
  vc : Nat
  vps : List Vp
  wA : Option Addr
  wc : Nat
  vws : List Vw
  fac : Int
  dom : Int
  a6 : Bool
  ah : Int
  al : Int
  b6 : Bool
  bh : Int
  bl : Int
def Cf.cells (c : Cf) : Array Value := #[.slice c.nA c.nds.length c.nc, .slice c.vA c.vps.length c.vc, .slice c.wA c.vws.length c.wc, .int .i64 c.fac, .int .i64 c.dom, .bool c.a6, .int .u64 c.ah, .int .u64 c.al, .bool c.b6, .int .u64 c.bh, .int .u64 c.bl]
def zA (v6 : Bool) (hi lo : Int) : Bool := !v6 && hi == 0 && lo == 0
/-- What needs no tree. -/
def plainZ (c : Cf) : Int :=
  if c.fac < 100 ∨ 1000 < c.fac ∨ (c.dom ≠ 2 ∧ c.dom ≠ 3) then 5
  else if c.a6 = true ∨ rightB c.a6 c.ah c.al = false ∨ (c.b6 = false ∧ zA c.b6 c.bh c.bl = false) then 18
  else if 64 < c.vps.length ∨ 64 < c.vws.length then 6 else 0
def treeE (l : List Nd) : Int := fstE (fun k => whyF (l.take k) (l.getD k zNd)) l.length
/-- Is there a host whose packets have no source? -/
def lackB (c : Cf) (e : Nd) : Bool := e.kind == 4 && (if e.v6 = true then zA c.b6 c.bh c.bl else zA c.a6 c.ah c.al)
def lackE (c : Cf) (k : Nat) : Bool := (List.range k).any fun j => lackB c (c.nds.getD j zNd)
theorem lack_next {c : Cf} {k : Nat} : lackE c (k + 1) = (lackE c k || lackB c (c.nds.getD k zNd)) := by
  unfold lackE; rw [List.range_succ, List.any_append]; simp
theorem lack_here {c : Cf} {k n : Nat} (hk : k < n) (h : lackB c (c.nds.getD k zNd) = true) : lackE c n = true := by
  unfold lackE; rw [List.any_eq_true]; exact ⟨k, by simpa using hk, h⟩
def levN (c : Cf) : Int := ((ofK c.nds 1 c.nds.length).length : Int)
/-- What needs the tree. -/
def restZ (c : Cf) : Int := if lackE c c.nds.length = true then 7 else if vipsE c.vps ≠ 0 then vipsE c.vps else viewsE (levN c) c.vws
/-- Why a configuration may not be. -/
def confE (c : Cf) : Int := if plainZ c ≠ 0 then plainZ c else if treeE c.nds ≠ 0 then treeE c.nds else restZ c
theorem tree_post {l : List Nd} {w w' : World} {o : Ending} (h : NewPost l w o w') :
    (∃ i, treeE l ≠ 0 ∧ o = .returned (.tuple #[.pointer none, .int .i64 i, .int .i64 (treeE l)])) ∨
    (treeE l = 0 ∧ GoodTo l l.length ∧ ∃ nv kv ks, o = .returned (.tuple #[.pointer (some ⟨w.heap.size, 0, none⟩), .int .i64 0, .int .i64 0]) ∧ Grow w.heap.size w' l l.length (kidsL l l.length) nv kv ks) := by
  have key : ∀ j (hj : j < l.length), l.getD j zNd = l[j] := fun j hj => by rw [List.getD_eq_getElem?_getD, List.getElem?_eq_getElem hj]; rfl
  have hf : ∀ j (hj : j < l.length), whyF (l.take j) (l.getD j zNd) = whyF (l.take j) l[j] := fun j hj => by rw [key j hj]
  rcases h with ⟨i, hi, hg, hb, rfl⟩ | ⟨hg, nv, kv, ks, rfl, h⟩
  · have e : treeE l = whyF (l.take i) l[i] :=
      (fst_stop (f := fun k => whyF (l.take k) (l.getD k zNd)) (k := i) (fst_zero fun j hj => (hf j (by omega)).trans (hg j (by omega) hj)) (fun h => hb ((hf i hi).symm.trans h)) hi).trans (hf i hi)
    exact .inl ⟨i, by rw [e]; exact hb, by rw [e]⟩
  · exact .inr ⟨fst_zero fun j hj => (hf j hj).trans (hg j hj hj), hg, nv, kv, ks, rfl, h⟩
end Go.Proofs.Ytamndmlaikgogaa.vdA
