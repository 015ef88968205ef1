/- Layer 30: a table, in plain words; a trie that is new. -/
import Derived.Test.YtamndmlaikgogaaVpE
import Derived.Test.YtamndmlaikgogaaVdJ
namespace Go.Proofs.Ytamndmlaikgogaa.vpF
open Go.ChangeShapes Go.WideShapes Go.ChangeAt Go.RowKit
open Go.Proofs.Ytamndmlaikgogaa.base Go.Proofs.Ytamndmlaikgogaa.dfA Go.Proofs.Ytamndmlaikgogaa.treB Go.Proofs.Ytamndmlaikgogaa.vdA Go.Proofs.Ytamndmlaikgogaa.vdB Go.Proofs.Ytamndmlaikgogaa.vdC Go.Proofs.Ytamndmlaikgogaa.vdD Go.Proofs.Ytamndmlaikgogaa.vdH Go.Proofs.Ytamndmlaikgogaa.vdI Go.Proofs.Ytamndmlaikgogaa.vdJ Go.Proofs.Ytamndmlaikgogaa.vpA Go.Proofs.Ytamndmlaikgogaa.vpB Go.Proofs.Ytamndmlaikgogaa.vpC Go.Proofs.Ytamndmlaikgogaa.vpD Go.Proofs.Ytamndmlaikgogaa.vpE
open Go.Maps
set_option linter.unusedVariables false

/-- All but the blocks of S stay. -/
structure Sv (S : Nat → Prop) (w w' : World) : Prop where
  os : w'.os = w.os
  tape : w'.tape = w.tape
  output : w'.output = w.output
  size : w.heap.size ≤ w'.heap.size
  block : ∀ k, k < w.heap.size → ¬ S k → w'.heap[k]? = w.heap[k]?
theorem Sv.refl (S : Nat → Prop) (w : World) : Sv S w w := ⟨rfl, rfl, rfl, Nat.le_refl _, fun _ _ _ => rfl⟩
theorem Sv.below {S : Nat → Prop} {w w1 w' : World} (h : Sv S w w1) (hb : Below w1.heap.size w1 w') : Sv S w w' :=
  ⟨hb.os.trans h.os, hb.tape.trans h.tape, hb.output.trans h.output, Nat.le_trans h.size hb.size, fun k hk hn => (hb.block k (Nat.lt_of_lt_of_le hk h.size)).trans (h.block k hk hn)⟩
theorem Sv.alloc {S : Nat → Prop} {w w1 : World} (h : Sv S w w1) (o : Obj) : Sv S w (w1.alloc o) := h.below ((Below.refl _ _).alloc (Nat.le_refl _) o)
theorem Sv.drew {S : Nat → Prop} {w w1 : World} (h : Sv S w w1) : Sv S w w1.drew := ⟨h.os, h.tape, h.output, h.size, h.block⟩
theorem Sv.grown {S : Nat → Prop} {w w1 w' : World} {b : Nat} (h : Sv S w w1) (hg : w1.grownBy w' (some b)) (hS : S b) : Sv S w w' :=
  ⟨hg.os.trans h.os, hg.tape.trans h.tape, hg.output.trans h.output, Nat.le_trans h.size hg.size, fun k hk hn => (hg.block k (Nat.lt_of_lt_of_le hk h.size) (fun e => hn (by injection e with e; exact e ▸ hS))).trans (h.block k hk hn)⟩
theorem Sv.kp {S : Nat → Prop} {w w1 w' : World} {A : Pos} (h : Sv S w w1) (hk : Kp A w1 w') (hA : ∀ p g o, A p = some (g, o) → S g ∨ w.heap.size ≤ g) : Sv S w w' :=
  ⟨hk.os.trans h.os, hk.tape.trans h.tape, hk.output.trans h.output, Nat.le_trans h.size hk.size, fun k hlt hn => (hk.block k (Nat.lt_of_lt_of_le hlt h.size) (fun p o e => by
    rcases hA p k o e with e | e
    · exact hn e
    · omega)).trans (h.block k hlt hn)⟩
theorem Sv.to_below {S : Nat → Prop} {w0 w w' : World} (h : Sv S w w') (h0 : Below w0.heap.size w0 w) (hS : ∀ k, S k → w0.heap.size ≤ k) : Below w0.heap.size w0 w' :=
  ⟨h.os.trans h0.os, h.tape.trans h0.tape, h.output.trans h0.output, Nat.le_trans h0.size h.size, fun k hk => (h.block k (Nat.lt_of_lt_of_le hk h0.size) (fun e => by have := hS k e; omega)).trans (h0.block k hk)⟩
/-- The places of the addresses that are balanced. -/
def tgt (l : List Vp) : Nat → DataW Unit
  | 0 => .map []
  | k + 1 => (tgt l k).put (kT (l.getD k zVp).v6 (l.getD k zVp).hi (l.getD k zVp).lo (l.getD k zVp).pr (l.getD k zVp).po) (.lit (.int .i64 k))
def our (l : List Vp) : Nat → DataW Unit
  | 0 => .map []
  | k + 1 => (our l k).put (kA (l.getD k zVp).v6 (l.getD k zVp).hi (l.getD k zVp).lo) (.agg [])
/-- What is in the trie behind k views. -/
def pthW (e : Vw) : List Bool := pth e.v6 e.hi e.lo e.bits.toNat
def hasT (vs : List Vw) : Nat → List Bool → Bool
  | 0 => fun _ => false
  | k + 1 => fun q => if q = pthW (vs.getD k zVw) then true else hasT vs k q
def valT (vs : List Vw) : Nat → List Bool → Int
  | 0 => fun _ => 0
  | k + 1 => fun q => if q = pthW (vs.getD k zVw) then (vs.getD k zVw).lev else valT vs k q
def szT (vs : List Vw) : Nat → Int
  | 0 => 0
  | k + 1 => if hasT vs k (pthW (vs.getD k zVw)) = true then szT vs k else szT vs k + 1
theorem szT_in (vs : List Vw) (k : Nat) : 0 ≤ szT vs k ∧ szT vs k ≤ k := by
  induction k with
  | zero => exact ⟨Int.le_refl 0, Int.le_refl 0⟩
  | succ k ih =>
    unfold szT
    split <;> omega
/-- The places of a new trie. -/
def at0 (tr : Nat) : Pos
  | [b] => some (tr, if b then 4 else 0)
  | _ => none
theorem tr_new {w : World} {tr : Nat} {t : TypeId} (h : Blk w tr t #[.pointer none, .pointer none, .bool false, .int .i64 0, .pointer none, .pointer none, .bool false, .int .i64 0, .int .i64 0]) : Tr w tr (at0 tr) (fun _ => false) (fun _ => 0) 0 := by
  have one : ∀ p g o, at0 tr p = some (g, o) → ∃ b, p = [b] ∧ g = tr ∧ o = (if b then 4 else 0) := by
    intro p g o hp
    match p, hp with
    | [b], hp =>
      unfold at0 at hp
      injection hp with hp
      injection hp with h1 h2
      exact ⟨b, rfl, h1.symm, h2.symm⟩
  refine ⟨fun b => rfl, rfl, ?_, Cl.blk h rfl, ?_, ?_, ?_, fun p _ => ⟨rfl, rfl⟩⟩
  · intro p g o hp
    obtain ⟨b, rfl, rfl, rfl⟩ := one p g o hp
    cases b
    · exact ⟨Cl.blk h rfl, Cl.blk h rfl, Cl.blk h rfl, Cl.blk h rfl⟩
    · exact ⟨Cl.blk h rfl, Cl.blk h rfl, Cl.blk h rfl, Cl.blk h rfl⟩
  · intro p q x hp hq
    obtain ⟨g, o⟩ := x
    obtain ⟨b, rfl, _, e1⟩ := one p g o hp
    obtain ⟨c, rfl, _, e2⟩ := one q g o hq
    rw [e1] at e2
    cases b <;> cases c <;> first | rfl | (exact absurd e2 (by decide))
  · intro p g o hp
    obtain ⟨b, rfl, rfl, rfl⟩ := one p g o hp
    cases b
    · exact .inl ⟨rfl, .inl rfl⟩
    · exact .inl ⟨rfl, .inr rfl⟩
  · intro p b hne hp
    match p, hne, hp with
    | [c], _, hp => unfold at0 at hp; cases hp
    | c :: d :: q, _, _ => rfl
/-- A table that is made. -/
structure TabOk (w : World) (tb tr mb ob : Nat) (A : Option Addr) (c : Nat) (At : Pos) (l : List Vp) (vs : List Vw) : Prop where
  blk : Blk w tb 70 #[.pointer (some ⟨tr, 0, none⟩), .slice A l.length c, .map (some mb), .map (some ob)]
  rows : RdV w A l
  cap : l.length ≤ c
  cap2 : c ≤ 9223372036854775807
  tg : w.ownsMap Try.prog 98 (plainElem Try.prog 3) mb l.length (tgt l l.length)
  us : w.ownsMap Try.prog 27 unitElem ob l.length (our l l.length)
  tri : Tr w tr At (hasT vs vs.length) (valT vs vs.length) (szT vs vs.length)
/-- Numbers as they are told. -/
structure VpIn (e : Vp) : Prop where
  hi : (Lit.int .u64 e.hi).wf = true
  lo : (Lit.int .u64 e.lo).wf = true
  pr : (Lit.int .i64 e.pr).wf = true
  po : (Lit.int .i64 e.po).wf = true
end Go.Proofs.Ytamndmlaikgogaa.vpF
