/- Layer 43: the law of DiffNodes. -/
import Derived.Test.YtpdkgchpkidbhaaDfF
import Derived.OwnWalk
import Derived.ArgAppend
namespace Go.Proofs.Ytpdkgchpkidbhaa.dfG
open Go.ChangeShapes Go.WideShapes Go.ChangeAt Go.RowKit
open Go.Proofs.Ytpdkgchpkidbhaa.base Go.Proofs.Ytpdkgchpkidbhaa.dfA Go.Proofs.Ytpdkgchpkidbhaa.dfB Go.Proofs.Ytpdkgchpkidbhaa.dfC Go.Proofs.Ytpdkgchpkidbhaa.dfD Go.Proofs.Ytpdkgchpkidbhaa.dfE Go.Proofs.Ytpdkgchpkidbhaa.dfF
set_option linter.unusedVariables false

theorem few_small (A : Option Addr) (n c : Nat) (w : World) (h : n ≤ 60) : Calls Try.prog 4 #[.slice A n c] w fun o w' => o = .returned (.slice A n c) ∧ Below w.heap.size w w' := by
  have t1 : decide ((60 : Int) < n) = false := decide_eq_false (by omega)
  have HB := Lib.hid (Below.refl w.heap.size w)
  go_enter Try.func4, Try.ntmps4
  go_wp2_with fail
  go_ret
  exact ⟨rfl, HB.out⟩
theorem few_big (b off n c : Nat) (w : World) (h : 60 < n) (hc : n ≤ c) (hc2 : c ≤ 9223372036854775807) : Calls Try.prog 4 #[.slice (some ⟨b, off, none⟩) n c] w fun o w' => o = .returned (.slice (some ⟨b, off, none⟩) 60 c) ∧ Below w.heap.size w w' := by
  have t1 : decide ((60 : Int) < n) = true := decide_eq_true (by omega)
  have HB := Lib.hid (Below.refl w.heap.size w)
  go_enter Try.func4, Try.ntmps4
  go_wp2_with fail
  go_ret
  exact ⟨rfl, HB.out⟩
theorem cg_ne (e : Cg) (W : World) : (binOp .neq 32 (.agg e.cells) (.agg e.cells)).run Try.prog W = .ok (.bool false) W := by
  unfold Cg.cells
  go_simp
def exA : Nd := ⟨⟨#[97]⟩, 0, 0, 1, false, 0, 0⟩
def exB : Nd := ⟨⟨#[97]⟩, 0, 0, 2, false, 0, 0⟩
theorem ex_is : goneC [exA] [exB] ++ newC [exA] [exB] [exB] = [⟨⟨#[97]⟩, 3⟩] := by
  have h1 : fz [exA] exB.nm = 0 := fz_is _ _ 0 (.inr ⟨0, by simp, rfl, rfl, fun q hq => by omega⟩)
  have h2 : fz [exB] exA.nm = 0 := fz_is _ _ 0 (.inr ⟨0, by simp, rfl, rfl, fun q hq => by omega⟩)
  have h3 : aboveS [exA] exA = aboveS [exB] exB := rfl
  unfold goneC newC oneC
  rw [List.flatMap_cons, List.flatMap_nil, h1]
  simp only [List.filter_cons, h2, List.filter_nil]
  rw [if_neg (by decide)]
  simp only [Int.toNat_zero, List.getElem?_cons_zero]
  unfold othC
  rw [h3]
  simp [exA, exB]
/-- Appending to a row that is one's own: it stays where it is, or is a new one. -/
theorem wpList_append_new {P : Program} (w : World) {ops : Array Oper} {rest : List Oper} {o : Oper} {a : Act} {Q : Exit → Act → World → Prop} (hgd : o.guard = none) (s x : Operand) (t : TypeId)
    (ho : o.op = .call { callee := .builtin .append, args := #[s, x], argTypes := #[t, t] })
    (base : Nat) (e : TypeId) (i : TypeInfo) (z : Value) (size bytes : Nat) (ht : P.underlying t = some (.slice e)) (hi : P.info? e = some i) (hz : i.zero = some z)
    (hsize : i.size = size) (hby : i.bytes = bytes) (hzs : z.cells.size = size) (hsz : 0 < size)
    (v : Value) (n : Nat) (xs : List Value) (hs : a.eval s = v) (hown : w.ownsRow base e size v n xs)
    (ad : Addr) (m c : Nat) (news : List Value) (hx : a.eval x = .slice (some ad) m c) (hm : 1 ≤ m) (hl : news.length = m * size) (hnews : ∀ j u, news[j]? = some u → w.cell? (ad.add j) = some u) (h1 : ∀ u ∈ news, u.oneCell' = true)
    (h63 : n + m ≤ maxLen) (hbytes : (n + m) * bytes ≤ 140737488355328) (hbase : base ≤ w.heap.size)
    (h : ∀ v' w', w'.ownsRow base e size v' (n + m) (xs ++ news) → w.grownBy w' v.ownBlock → (∀ g, v'.ownBlock = some g → v.ownBlock = some g ∨ w.heap.size ≤ g) → wpList P ops Q rest (a.put o.dst v') w') : wpList P ops Q (o :: rest) a w := by
  have hgr : ∀ (v' : Value) (w' : World), w'.ownsRow w.heap.size e size v' (n + m) (xs ++ news) → w.grownBy w' none → wpList P ops Q rest (a.put o.dst v') w' := fun v' w' ho hg => by
    refine h v' w' ⟨ho.1, ?_⟩ ⟨hg.os, hg.tape, hg.output, hg.size, fun k hk _ => hg.block k hk (by simp)⟩ fun g e => .inr (ho.lt g e).1
    rcases ho.2 with h0 | ⟨g, cap, cur, h1, h2, h3⟩
    · exact .inl h0
    · exact .inr ⟨g, cap, cur, h1, Nat.le_trans hbase h2, h3⟩
  rcases hown.2 with ⟨h0, h1n⟩ | ⟨g, cap, cur, hv, hbg, hgc, hnc, hcm, hcs, htk⟩
  · subst h0
    have hxs : xs = [] := List.eq_nil_of_length_eq_zero (by rw [hown.1, h1n]; simp)
    subst hxs
    subst h1n
    exact wpList_append_grows w hgd s x t ho e i z size bytes ht hi hz hsize hby hzs hsz none 0 0 [] hs (fun _ => ⟨rfl, rfl⟩) (by simp) (fun b hb => by cases hb) ad m c news hx hl hnews h1 (by omega) h63 hbytes hgr
  · subst hv
    by_cases hr : n + m ≤ cap
    · exact wpList_append_fits w hgd s x t ho base e i size ht hi hsize g n cap xs hs hown ad m c news hx hl hnews h1 hr fun w' h2 h3 => h _ w' h2 h3 fun g2 e2 => .inl e2
    · exact wpList_append_grows w hgd s x t ho e i z size bytes ht hi hz hsize hby hzs hsz (some ⟨g, 0, none⟩) n cap xs hs (fun hb => by cases hb) hown.1 (fun b hb => by injection hb with hb; subst hb; exact hown.cells rfl) ad m c news hx hl hnews h1 (by omega) h63 hbytes hgr
theorem awake_any (w : World) : Calls Try.prog 8 #[] w fun o w' => o = .returned (.bool true) ∧ Below w.heap.size w w' := by
  have hw : Below w.heap.size w ((w.alloc (.cells exA.cells 30)).alloc (.cells exB.cells 30)) := ((Below.refl w.heap.size w).alloc (Nat.le_refl _) _).alloc (by simp) _
  have ra : RdN ((w.alloc (.cells exA.cells 30)).alloc (.cells exB.cells 30)) (some ⟨w.heap.size, 0, none⟩) [exA] := .inr ⟨w.heap.size, 0, rfl, by simp; omega, fun j hj i hi => by
    have hj0 : j = 0 := by simpa using hj
    subst hj0
    have hb : Blk ((w.alloc (.cells exA.cells 30)).alloc (.cells exB.cells 30)) w.heap.size 30 exA.cells := (Below.heap_alloc _ _ _ (by simp)).trans (Blk.new w _ _)
    rw [hb.cell]
    simp⟩
  have rb : RdN ((w.alloc (.cells exA.cells 30)).alloc (.cells exB.cells 30)) (some ⟨w.heap.size + 1, 0, none⟩) [exB] := .inr ⟨w.heap.size + 1, 0, rfl, by simp, fun j hj i hi => by
    have hj0 : j = 0 := by simpa using hj
    subst hj0
    have hb := Blk.new (w.alloc (.cells exA.cells 30)) 30 exB.cells
    rw [show (w.alloc (.cells exA.cells 30)).heap.size = w.heap.size + 1 by simp] at hb
    rw [hb.cell]
    simp⟩
  have HO := Lib.hid (of_any (some ⟨w.heap.size, 0, none⟩) (some ⟨w.heap.size + 1, 0, none⟩) 1 1 [exA] [exB] _ ra rb (by simp) (by simp) (by simp) (by simp) (by omega) (by omega))
  rw [ex_is] at HO
  have HW := Lib.hid hw
  clear hw ra rb
  go_enter Try.func8, Try.ntmps8
  go_wp2_with fail
  refine HO.out.mono ?_
  rintro o w3 ⟨v, rfl, ho, hb⟩
  have HB := Lib.hid (HW.out.trans (hb.mono HW.out.size))
  obtain ⟨A, cap, hv, hc1, hc2, h4⟩ := ho.slice
  unfold maxLen at hc2
  rcases h4 with ⟨h5, _⟩ | ⟨g, hA, hg1, hg2, hcell⟩
  · cases h5
  subst hA hv
  have d0 : w3.cell? ⟨g, 0, none⟩ = some (.string ⟨#[97]⟩) := hcell 0 _ rfl
  have d1 : w3.cell? ⟨g, 1, none⟩ = some (.int .i64 3) := hcell 1 _ rfl
  clear ho hb hcell
  go_wp2_with fail
  go_ret
  first | exact ⟨rfl, HB.out⟩ | exact ⟨rfl, HB.out.drew⟩
end Go.Proofs.Ytpdkgchpkidbhaa.dfG
