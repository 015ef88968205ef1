/- Layer 39: a table is made. -/
import Derived.Test.YtjlochieddhmpaaRingF
import Derived.Test.YtjlochieddhmpaaMixB
import Derived.Test.YtjlochieddhmpaaMixD
namespace Go.Proofs.Ytjlochieddhmpaa.ringG
open Go.ChangeShapes Go.WideShapes Go.ChangeAt Go.RowKit
open Go.Proofs.Ytjlochieddhmpaa.base Go.Proofs.Ytjlochieddhmpaa.ringA Go.Proofs.Ytjlochieddhmpaa.ringB Go.Proofs.Ytjlochieddhmpaa.ringC Go.Proofs.Ytjlochieddhmpaa.ringD Go.Proofs.Ytjlochieddhmpaa.ringE Go.Proofs.Ytjlochieddhmpaa.ringF
set_option linter.unusedVariables false

theorem oneZ_in (x : Int) : 0 ≤ mixA.oneZ x ∧ mixA.oneZ x < 18446744073709551616 := by
  unfold mixA.oneZ
  generalize hy : IntKind.u64.wrap (mixA.xsZ (IntKind.u64.wrap (mixA.xsZ x * 18397679294719823053)) * 14181476777654086739) = y
  rw [IntKind.wrap_u64] at hy
  obtain ⟨n, hn⟩ : ∃ n : Nat, y = n := ⟨y.toNat, by omega⟩
  rw [hn]
  have hl : n < 18446744073709551616 := by omega
  have := mixA.xs_lt hl
  unfold mixA.xsZ
  rw [mixA.xsI hl]
  omega
theorem ofZ_in (key : Int) (l : List Int) : 0 ≤ mixD.ofZ key l ∧ mixD.ofZ key l < 18446744073709551616 := by
  unfold mixD.ofZ
  have h : ∀ (l : List Int) (a : Int), 0 ≤ a ∧ a < 18446744073709551616 → 0 ≤ l.foldl mixD.stepZ a ∧ l.foldl mixD.stepZ a < 18446744073709551616 := by
    intro l
    induction l with
    | nil => intro a ha; exact ha
    | cons x l ih => intro a _; exact ih _ (oneZ_in _)
  exact h l _ (oneZ_in _)
/-- Where an item begins, and how far its places are apart. -/
def nxZ (seed : Int) (n : Nat) (x : Int) : Nat := (mixB.below (mixD.ofZ seed [x, 1]) n).toNat
def skZ (seed : Int) (n : Nat) (x : Int) : Nat := (1 + mixB.below (mixD.ofZ seed [x, 2]) (n - 1)).toNat
theorem below_in (h n : Int) (h0 : 0 ≤ h ∧ h < 18446744073709551616) (hn : 1 ≤ n) : 0 ≤ mixB.below h n ∧ mixB.below h n < n := by
  have := mixB.mul_lt h0.1 h0.2 hn
  unfold mixB.below
  rw [if_neg (by omega)]
  exact this
theorem nxZ_in (seed : Int) (n : Nat) (x : Int) (hn : 2 ≤ n) : nxZ seed n x < n ∧ mixB.below (mixD.ofZ seed [x, 1]) n = (nxZ seed n x : Nat) := by
  have := below_in _ n (ofZ_in seed [x, 1]) (by omega)
  unfold nxZ
  omega
theorem skZ_in (seed : Int) (n : Nat) (x : Int) (hn : 2 ≤ n) : 1 ≤ skZ seed n x ∧ skZ seed n x < n ∧ 1 + mixB.below (mixD.ofZ seed [x, 2]) ((n : Int) - 1) = (skZ seed n x : Nat) := by
  have := below_in _ ((n : Int) - 1) (ofZ_in seed [x, 2]) (by omega)
  unfold skZ
  omega
/-- What the heaviest one weighs. -/
def maxW (ws : Nat → Int) : Nat → Int
  | 0 => 0
  | j + 1 => max (maxW ws j) (ws j)
theorem maxW_in (ws : Nat → Int) (j : Nat) (h : ∀ i, i < j → 0 ≤ ws i ∧ ws i ≤ 65535) : 0 ≤ maxW ws j ∧ maxW ws j ≤ 65535 ∧ (∀ i, i < j → ws i ≤ maxW ws j) ∧ (0 < maxW ws j → ∃ i, i < j ∧ ws i = maxW ws j) := by
  induction j with
  | zero => exact ⟨Int.le_refl _, by unfold maxW; omega, fun i hi => by omega, fun h => absurd h (by unfold maxW; omega)⟩
  | succ j ih =>
    obtain ⟨a, b, c, d⟩ := ih (fun i hi => h i (by omega))
    have hj := h j (by omega)
    unfold maxW
    refine ⟨by omega, by omega, fun i hi => ?_, fun h0 => ?_⟩
    · by_cases e : i = j
      · subst e; omega
      · have := c i (by omega); omega
    · rcases Int.lt_or_le (maxW ws j) (ws j) with hlt | hge
      · exact ⟨j, by omega, by omega⟩
      · obtain ⟨i, hi, e⟩ := d (by omega)
        exact ⟨i, by omega, by omega⟩
/-- The table at the start, and when it is full. -/
def startS (seed : Int) (n : Nat) (ids : Nat → Int) : Rs := ⟨fun _ => -1, fun i => nxZ seed n (ids i), fun _ => 0, n⟩
def endS (seed : Int) (n m : Nat) (ids ws : Nat → Int) : Rs := if 0 < maxW ws m then finR n m (fun i => skZ seed n (ids i)) ws (maxW ws m) (startS seed n ids) else startS seed n ids
theorem start_ok (seed : Int) (n m : Nat) (ids ws : Nat → Int) (hn : 2 ≤ n) (h0 : 0 < maxW ws m) : OkR n m (maxW ws m) (startS seed n ids) :=
  ⟨fun q hq => .inl rfl, fun i hi => (nxZ_in seed n (ids i) hn).1, fun i hi => ⟨Int.le_refl _, h0⟩, cf_all _ _ fun q hq => by show (-1 : Int) < 0; omega⟩
theorem items_ok (seed : Int) (n m : Nat) (ids ws : Nat → Int) (hp : Pr n) (hw : ∀ j, j < m → 0 ≤ ws j ∧ ws j ≤ 65535) (h0 : 0 < maxW ws m) : ItemsR n m (fun i => skZ seed n (ids i)) ws (maxW ws m) :=
  ⟨hp, fun i _ => (skZ_in seed n (ids i) hp.1).1, fun i _ => (skZ_in seed n (ids i) hp.1).2.1, fun i hi => (hw i hi).1, (maxW_in ws m hw).2.2.1, (maxW_in ws m hw).2.2.2 h0⟩
theorem info_turn : (Try.prog.info? 49).map (fun i => (i.zero, i.size, i.bytes)) = some (some (.agg #[.int .i64 0, .int .i64 0, .int .i64 0]), 3, 24) := by kernel_rfl
theorem made_turns (m : Nat) : AtT m (madeCells #[.int .i64 0, .int .i64 0, .int .i64 0] (m * 3)) (fun _ => 0) (fun _ => 0) (fun _ => 0) := by
  refine ⟨by rw [size_madeCells]; omega, fun i hi => ?_⟩
  have key : ∀ j, j < m * 3 → (madeCells #[Value.int .i64 0, .int .i64 0, .int .i64 0] (m * 3))[j]? = some (.int .i64 0) := by
    intro j hj
    unfold madeCells
    rw [Array.getElem?_map, Array.getElem?_range, if_pos hj]
    show some (#[Value.int .i64 0, .int .i64 0, .int .i64 0][j % 3]!) = _
    have h3 : j % 3 < 3 := Nat.mod_lt _ (by decide)
    generalize j % 3 = q at *
    match q, h3 with
    | 0, _ => rfl
    | 1, _ => rfl
    | 2, _ => rfl
  exact ⟨key _ (by omega), key _ (by omega), key _ (by omega)⟩
theorem AtT.setSk {m : Nat} {cs : Array Value} {nx sk : Nat → Nat} {due : Nat → Int} (h : AtT m cs nx sk due) (k : Nat) (hk : k < m) (x : Nat) : AtT m (cs.setIfInBounds (k * 3 + 1) (.int .i64 x)) nx (upd sk k x) due := by
  refine ⟨by simp [h.1], fun i hi => ?_⟩
  obtain ⟨a, b, c⟩ := h.2 i hi
  rw [set_far _ _ _ _ (by omega : k * 3 + 1 ≠ i * 3), set_far _ _ _ _ (by omega : k * 3 + 1 ≠ i * 3 + 2)]
  refine ⟨a, ?_, c⟩
  by_cases e : k = i
  · subst e
    rw [set_here _ _ _ (by have := h.1; omega), upd_here]
  · rw [set_far _ _ _ _ (by omega), b, upd_far _ _ _ _ (Ne.symm e)]
/-- The first j of them. -/
def firstN (f : Nat → Nat) (j : Nat) : Nat → Nat := fun i => if i < j then f i else 0
theorem firstN_next (f : Nat → Nat) (j : Nat) : upd (firstN f j) j (f j) = firstN f (j + 1) := by
  funext i
  unfold upd firstN
  by_cases e : i = j
  · subst e
    rw [if_pos rfl, if_pos (by omega)]
  · rw [if_neg e]
    by_cases h : i < j
    · rw [if_pos h, if_pos (by omega)]
    · rw [if_neg h, if_neg (by omega)]
theorem new_no (seed size : Int) (A : Option Addr) (m c : Nat) (ids ws : Nat → Int) (w : World) (hm : m ≤ 500) (hit : ItemsIn w w.heap.size A m ids ws) (hid : ∀ j, j < m → 0 ≤ ids j ∧ ids j < 18446744073709551616) (h : ¬ RightP size m ids ws) :
    Calls Try.prog 10 #[.int .u64 seed, .int .i64 size, .slice A m c] w fun e w' => e = .returned (.tuple #[.pointer none, .int .i64 1]) ∧ Below w.heap.size w w' := by
  have HR := Lib.hid (right_any size A m c ids ws w hm hit hid)
  have HN := Lib.hid h
  clear hit hid h
  go_enter Try.func10, Try.ntmps10
  go_wp2_with fail
  refine HR.out.mono ?_
  rintro e w1 ⟨b, rfl, hb, hbel⟩
  obtain rfl : b = false := by
    cases b
    · rfl
    · exact absurd (hb.mp rfl) HN.out
  have HB := Lib.hid hbel
  clear hb hbel
  go_wp2_with fail
  exact bodyPost_ret (v := .tuple #[.pointer none, .int .i64 1]) (by simp [results, Try.results10, go_sem]) rfl ⟨rfl, HB.out⟩
theorem row_two (W : World) (x y : Value) (t : TypeId) : Row (W.alloc (.cells #[x, y] t)) (W.alloc (.cells #[x, y] t)).heap.size (some ⟨W.heap.size, 0, none⟩) [x, y] := by
  refine .inr ⟨W.heap.size, 0, rfl, by simp, fun i u hu => ?_⟩
  rw [Nat.zero_add, (Blk.new W t #[x, y]).cell i]
  match i, hu with
  | 0, hu => simpa using hu
  | 1, hu => simpa using hu
  | i + 2, hu => simp at hu
section
variable {w : World} {ra g tb size m : Nat} {sk : Nat → Nat} {s : Rs}
theorem MemR.setSk (h : MemR w ra g tb size m sk s) (i : Nat) (hi : i < m) (x : Nat) : MemR (w.setCell ⟨tb, i * 3 + 1, none⟩ (.int .i64 x)) ra g tb size m (upd sk i x) s := by
  obtain ⟨cs, h1, h2⟩ := h.p
  obtain ⟨ts, h3, h4⟩ := h.t
  obtain ⟨n1, n2, n3⟩ := h.ne
  exact ⟨h.r.far (p := ⟨tb, i * 3 + 1, none⟩) n2 _, ⟨cs, h1.far (p := ⟨tb, i * 3 + 1, none⟩) n3 _, h2⟩, ⟨_, h3.set_ _ _, ringG.AtT.setSk h4 i hi x⟩, h.ne⟩
theorem MemR.alloc (h : MemR w ra g tb size m sk s) (o : Obj) : MemR (w.alloc o) ra g tb size m sk s := by
  obtain ⟨cs, h1, h2⟩ := h.p
  obtain ⟨ts, h3, h4⟩ := h.t
  exact ⟨h.r.alloc o, ⟨cs, h1.alloc o, h2⟩, ⟨ts, h3.alloc o, h4⟩, h.ne⟩
theorem MemR.ext {nx' sk' : Nat → Nat} (h : MemR w ra g tb size m sk s) (e1 : ∀ i, i < m → sk i = sk' i) (e2 : ∀ i, i < m → s.nx i = nx' i) : MemR w ra g tb size m sk' ⟨s.P, nx', s.due, s.free⟩ := by
  obtain ⟨ts, h3, h4⟩ := h.t
  refine ⟨h.r, h.p, ⟨ts, h3, h4.1, fun i hi => ?_⟩, h.ne⟩
  obtain ⟨a, b, c⟩ := h4.2 i hi
  rw [e2 i hi] at a
  rw [e1 i hi] at b
  exact ⟨a, b, c⟩
theorem MemR.bounds (h : MemR w ra g tb size m sk s) : ra < w.heap.size ∧ g < w.heap.size ∧ tb < w.heap.size := by
  obtain ⟨cs, h1, h2⟩ := h.p
  obtain ⟨ts, h3, h4⟩ := h.t
  exact ⟨h.r.lt, h1.lt, h3.lt⟩
end
/-- A table in memory. -/
def RingAt (w : World) (ra n : Nat) (P : Nat → Int) : Prop := ∃ g cs, Blk w ra 44 #[.slice (some ⟨g, 0, none⟩) n n] ∧ Blk w g 3 cs ∧ AtA n cs P
def NewPost (seed : Int) (n m : Nat) (ids ws : Nat → Int) (w : World) (e : Ending) (w' : World) : Prop := ∃ ra, e = .returned (.tuple #[.pointer (some ⟨ra, 0, none⟩), .int .i64 0]) ∧ RingAt w' ra n (endS seed n m ids ws).P ∧ Below w.heap.size w w'
set_option maxRecDepth 100000 in
set_option maxHeartbeats 4000000 in
theorem new_ok (seed : Int) (n : Nat) (A : Option Addr) (m c : Nat) (ids ws : Nat → Int) (w : World) (hm : m ≤ 500) (hit : ItemsIn w w.heap.size A m ids ws) (hid : ∀ j, j < m → 0 ≤ ids j ∧ ids j < 18446744073709551616) (h : RightP n m ids ws) :
    Calls Try.prog 10 #[.int .u64 seed, .int .i64 n, .slice A m c] w (NewPost seed n m ids ws w) := by
  have n2 : 2 ≤ n := by have := h.lo; omega
  have n3 : n ≤ 65537 := by have := h.hi; omega
  have hpr : Pr n := by have := h.pr; rw [Int.toNat_natCast] at this; exact this
  obtain ⟨i0, hi0, hz0, hz1, hz2⟩ := info_parts info_turn
  have hmk := fun (W : World) => run_make (P := Try.prog) W 45 49 i0 _ Try.underlying45 hi0 hz0 .i64 .i64 (m : Int) (m : Int) (by omega) (Int.le_refl _) (by rw [hz2]; omega) (by omega)
  rw [hz1, Int.toNat_natCast] at hmk
  have HMW := Lib.hid (maxW_in ws m h.ws)
  have HMJ := Lib.hid (show ∀ j, j ≤ m → 0 ≤ maxW ws j ∧ maxW ws j ≤ 65535 from fun j hj => by
    have := maxW_in ws j (fun i hi => h.ws i (by omega))
    exact ⟨this.1, this.2.1⟩)
  have HSO := Lib.hid (fun h0 => start_ok seed n m ids ws n2 h0)
  have HIO := Lib.hid (fun h0 => items_ok seed n m ids ws hpr h.ws h0)
  have HNX := Lib.hid (fun x => nxZ_in seed n x n2)
  have HSK := Lib.hid (fun x => skZ_in seed n x n2)
  have HR := Lib.hid (right_any n A m c ids ws w hm hit hid)
  have HW := Lib.hid h.ws
  have HN := Lib.hid h
  have HIT := Lib.hid hit
  have HID := Lib.hid hid
  clear hit hid h hpr hi0 hz0 hz1 hz2
  go_enter Try.func10, Try.ntmps10
  go_wp2_with fail
  refine HR.out.mono ?_
  rintro e w1 ⟨b, rfl, hb, hbel⟩
  obtain rfl : b = true := hb.mpr HN.out
  have HB1 := Lib.hid hbel
  have HS1 := Lib.hid hbel.size
  have ha0 := (Blk.new w1 3 #[.int .i64 (-1)]).cell 0
  clear hb hbel
  go_wp2_with fail
  refine (repeat_any w1.heap.size 0 1 (-1) n _ ha0 (by omega) (by omega)).mono ?_
  rintro e w2 ⟨he, hr2, hb2⟩
  obtain ⟨g, hg⟩ : ∃ g, g = (w1.alloc (.cells #[.int .i64 (-1)] 3)).heap.size := ⟨_, rfl⟩
  rw [← hg] at hr2 he
  subst he
  have hg1 : g = w1.heap.size + 1 := by rw [hg]; simp
  have hgl := hr2.lt
  have hrep : AtA n (rep (-1) n n).toArray (fun _ => -1) := ⟨by rw [List.size_toArray, rep_len _ _ _ (Nat.le_refl _)], fun i hi => by simpa using rep_get (-1) n n i hi⟩
  have hbw2 : Below w.heap.size w w2 := (HB1.out.alloc HS1.out _).trans (hb2.mono (by rw [← hg]; have := HS1.out; omega))
  have HM0 := Lib.hid (show MemR ((w2.alloc (.cells #[.slice (some ⟨g, 0, none⟩) n n] 44)).alloc (.cells (madeCells #[.int .i64 0, .int .i64 0, .int .i64 0] (m * 3)) 49)) w2.heap.size g (w2.heap.size + 1) n m (fun _ => 0) ⟨fun _ => -1, fun _ => 0, fun _ => 0, n⟩ by
    have h2 := Blk.new (w2.alloc (.cells #[.slice (some ⟨g, 0, none⟩) n n] 44)) 49 (madeCells #[.int .i64 0, .int .i64 0, .int .i64 0] (m * 3))
    rw [show (w2.alloc (.cells #[.slice (some ⟨g, 0, none⟩) n n] 44)).heap.size = w2.heap.size + 1 by simp] at h2
    exact ⟨(Blk.new w2 _ _).alloc _, ⟨_, (hr2.alloc _).alloc _, hrep⟩, ⟨_, h2, made_turns m⟩, by omega, by omega, by omega⟩)
  have HBW := Lib.hid (show Below w.heap.size w ((w2.alloc (.cells #[.slice (some ⟨g, 0, none⟩) n n] 44)).alloc (.cells (madeCells #[.int .i64 0, .int .i64 0, .int .i64 0] (m * 3)) 49)) from (hbw2.alloc hbw2.size _).alloc (by have := hbw2.size; simp; omega) _)
  have hgs : w.heap.size ≤ g := by have := HS1.out; omega
  have hgs2 : w.heap.size ≤ w2.heap.size := hbw2.size
  clear hr2 hb2 hg hg1 hrep hbw2 ha0
  obtain ⟨nx, hnx⟩ : ∃ nx : Nat → Nat, nx = fun i => nxZ seed n (ids i) := ⟨_, rfl⟩
  obtain ⟨sk, hsk⟩ : ∃ sk : Nat → Nat, sk = fun i => skZ seed n (ids i) := ⟨_, rfl⟩
  have HNXE := Lib.hid hnx
  have HSKE := Lib.hid hsk
  clear hnx hsk
  go_wp2_with fail
  clear hmk
  go_loopw [27, 10, 11, 12] (fun i mo _ _ wr => ∃ j : Nat, j ≤ m ∧ i = .int .i64 j ∧ mo = .int .i64 (maxW ws j) ∧ MemR wr w2.heap.size g (w2.heap.size + 1) n m (firstN sk j) ⟨fun _ => -1, firstN nx j, fun _ => 0, n⟩ ∧ Below w.heap.size w wr) (fun i _ _ _ _ => m - (intOf i).toNat)
  case atStart =>
    have e : ∀ f : Nat → Nat, firstN f 0 = fun _ => 0 := fun f => by funext i; unfold firstN; rw [if_neg (by omega)]
    exact ⟨0, by omega, rfl, rfl, by rw [e, e]; exact HM0.out, HBW.out⟩
  case round =>
    obtain ⟨j, hj, rfl, rfl, hM, hbel⟩ := hrel
    have KM := Lib.hid hM
    have KB := Lib.hid hbel
    have hmw := HMJ.out j hj
    by_cases hlt : j < m
    · have p1 : decide ((j : Int) < (m : Int)) = true := decide_eq_true (by omega)
      rcases HIT.out with h0 | ⟨b, off, rfl, hbl, hcs⟩
      · omega
      · obtain ⟨c1, c2⟩ := (hcs.below hbel hbl) j hlt
        have hbd := MemR.bounds hM
        have hwv := HW.out j hlt
        have KN := Lib.hid (show upd (firstN nx j) j (nxZ seed n (ids j)) = firstN nx (j + 1) by have := firstN_next nx j; rw [HNXE.out] at this ⊢; exact this)
        have KS := Lib.hid (show upd (firstN sk j) j (skZ seed n (ids j)) = firstN sk (j + 1) by have := firstN_next sk j; rw [HSKE.out] at this ⊢; exact this)
        have KX := Lib.hid (show maxW ws (j + 1) = max (maxW ws j) (ws j) from rfl)
        have KW2 := Lib.hid (HMJ.out (j + 1) hlt)
        generalize hx : ids j = x at *
        generalize hv : ws j = v at *
        generalize maxW ws j = mo at *
        clear hx hv hM hbel hcs
        obtain ⟨W1, hW1⟩ : ∃ W1, W1 = (wr.alloc (.cells #[.int .u64 x, .int .i64 v] 38)).alloc (.cells #[.int .u64 x, .int .u64 1] 24) := ⟨_, rfl⟩
        have hrow1 := row_two (wr.alloc (.cells #[.int .u64 x, .int .i64 v] 38)) (.int .u64 x) (.int .u64 1) 24
        rw [show (wr.alloc (.cells #[.int .u64 x, .int .i64 v] 38)).heap.size = wr.heap.size + 1 by simp, ← hW1] at hrow1
        have M1 := Lib.hid (show MemR W1 w2.heap.size g (w2.heap.size + 1) n m (firstN sk j) ⟨fun _ => -1, firstN nx j, fun _ => 0, n⟩ by rw [hW1]; exact MemR.alloc (MemR.alloc KM.out _) _)
        have B1 := Lib.hid (show Below w.heap.size w W1 by rw [hW1]; exact (KB.out.alloc KB.out.size _).alloc (by have := KB.out.size; simp; omega) _)
        have I1 := Lib.hid (show Blk W1 wr.heap.size 38 #[.int .u64 x, .int .i64 v] by rw [hW1]; exact (Blk.new wr _ _).alloc _)
        have H1 := Lib.hid (mixD.of_any seed (some ⟨wr.heap.size + 1, 0, none⟩) 2 2 [x, 1] W1 _ rfl (by omega) hrow1)
        have s1 := Lib.hid (show W1.heap.size = wr.heap.size + 2 by rw [hW1]; simp)
        rw [hW1] at H1
        have HB1' := Lib.hid (show ∀ W, Calls Try.prog 19 #[.int .u64 (mixD.ofZ seed [x, 1]), .int .i64 n] W fun e w' => e = .returned (.int .i64 (nxZ seed n x)) ∧ W = w' from fun W => by
          have := mixB.below_any (mixD.ofZ seed [x, 1]) n (ofZ_in _ _).1 (ofZ_in _ _).2 (by omega) (by omega) W
          rw [(HNX.out x).2] at this
          exact this)
        have HB2' := Lib.hid (show ∀ W, Calls Try.prog 19 #[.int .u64 (mixD.ofZ seed [x, 2]), .int .i64 ((n : Int) - 1)] W fun e w' => e = .returned (.int .i64 ((skZ seed n x : Nat) - 1)) ∧ W = w' from fun W => by
          have := mixB.below_any (mixD.ofZ seed [x, 2]) ((n : Int) - 1) (ofZ_in _ _).1 (ofZ_in _ _).2 (by omega) (by omega) W
          have e := (HSK.out x).2.2
          rw [show mixB.below (mixD.ofZ seed [x, 2]) ((n : Int) - 1) = (skZ seed n x : Nat) - 1 by omega] at this
          exact this)
        have nb := (HNX.out x).1
        have sb := HSK.out x
        have sb1 := sb.1
        have sb2 := sb.2.1
        clear sb
        generalize mixD.ofZ seed [x, 1] = o1 at *
        generalize ho2 : mixD.ofZ seed [x, 2] = o2 at *
        generalize nxZ seed n x = xn at *
        generalize skZ seed n x = xk at *
        have e5 : IntKind.i64.wrap ((n : Int) - 1) = (n : Int) - 1 := IntWalk.i64_in _ (by omega)
        have e6 : IntKind.i64.wrap (1 + ((xk : Int) - 1)) = (xk : Int) := by rw [show 1 + ((xk : Int) - 1) = (xk : Int) by omega]; exact IntWalk.i64_in _ (by omega)
        go_wp2_with fail
        refine H1.out.mono ?_
        rintro e w' ⟨rfl, rfl⟩
        rw [← hW1]
        clear hW1 hrow1 c1 c2 H1
        have i0 := I1.out.cell 0
        have i1 := I1.out.cell 1
        obtain ⟨_, k0, k1, _, kf, _, _⟩ := M1.out.cells j hlt
        have kf0 := kf (j * 3)
        clear kf
        obtain ⟨X2, hX2⟩ : ∃ X2, X2 = (W1.setCell ⟨w2.heap.size + 1, j * 3, none⟩ (.int .i64 xn)).alloc (.cells #[.int .u64 x, .int .u64 2] 24) := ⟨_, rfl⟩
        have hrow2 := row_two (W1.setCell ⟨w2.heap.size + 1, j * 3, none⟩ (.int .i64 xn)) (.int .u64 x) (.int .u64 2) 24
        rw [show (W1.setCell ⟨w2.heap.size + 1, j * 3, none⟩ (.int .i64 xn)).heap.size = W1.heap.size by simp, ← hX2] at hrow2
        have M2 := Lib.hid (show MemR X2 w2.heap.size g (w2.heap.size + 1) n m (firstN sk j) ⟨fun _ => -1, firstN nx (j + 1), fun _ => 0, n⟩ by
          rw [hX2, ← KN.out]
          exact MemR.alloc (M1.out.setNx j hlt xn) _)
        have B2 := Lib.hid (show Below w.heap.size w X2 by rw [hX2]; exact (B1.out.setCell (p := ⟨w2.heap.size + 1, j * 3, none⟩) (by show w.heap.size ≤ w2.heap.size + 1; omega) _).alloc (by have := B1.out.size; simpa using this) _)
        have I2 := Lib.hid (show Blk X2 wr.heap.size 38 #[.int .u64 x, .int .i64 v] by rw [hX2]; exact (I1.out.far (p := ⟨w2.heap.size + 1, j * 3, none⟩) (by show wr.heap.size ≠ w2.heap.size + 1; omega) _).alloc _)
        have H2 := Lib.hid (mixD.of_any seed (some ⟨W1.heap.size, 0, none⟩) 2 2 [x, 2] X2 _ rfl (by omega) hrow2)
        rw [hX2] at H2
        rw [ho2] at H2
        go_wp2_with (go_at_call 19; (with_reducible refine (HB1'.out _).mono ?_); rintro e w' ⟨rfl, rfl⟩)
        refine H2.out.mono ?_
        rintro e w' ⟨rfl, rfl⟩
        rw [← hX2]
        clear hX2 hrow2 H2 i0 i1 k0 k1 kf0 M1 B1 I1
        have i0 := I2.out.cell 0
        have i1 := I2.out.cell 1
        obtain ⟨_, _, k1, _, kf, _, _⟩ := M2.out.cells j hlt
        have kf0 := kf (j * 3 + 1)
        clear kf
        have HFM := Lib.hid (show MemR (X2.setCell ⟨w2.heap.size + 1, j * 3 + 1, none⟩ (.int .i64 xk)) w2.heap.size g (w2.heap.size + 1) n m (firstN sk (j + 1)) ⟨fun _ => -1, firstN nx (j + 1), fun _ => 0, n⟩ by
          rw [← KS.out]
          exact MemR.setSk M2.out j hlt xk)
        have HFB := Lib.hid (show Below w.heap.size w (X2.setCell ⟨w2.heap.size + 1, j * 3 + 1, none⟩ (.int .i64 xk)) from B2.out.setCell (p := ⟨w2.heap.size + 1, j * 3 + 1, none⟩) (by show w.heap.size ≤ w2.heap.size + 1; omega) _)
        go_wp2_with (go_at_call 19; (with_reducible refine (HB2'.out _).mono ?_); rintro e w' ⟨rfl, rfl⟩)
        refine ⟨⟨j + 1, by omega, by go_num, by rw [KX.out]; congr 1; split <;> omega, HFM.out, HFB.out⟩, ?_⟩
        simp [intOf]
        omega
    · obtain rfl : j = m := by omega
      have p1 : decide ((j : Int) < (j : Int)) = false := decide_eq_false (by omega)
      have KE := Lib.hid (show MemR wr w2.heap.size g (w2.heap.size + 1) n j sk (startS seed n ids) from by
        have h := MemR.ext hM (sk' := sk) (nx' := nx) (fun i hi => by unfold firstN; rw [if_pos hi]) (fun i hi => by show firstN nx j i = nx i; unfold firstN; rw [if_pos hi])
        rw [HNXE.out] at h
        exact h)
      clear hM hbel
      by_cases h0 : 0 < maxW ws j
      · have p2 : decide (0 < maxW ws j) = true := decide_eq_true h0
        have HE := Lib.hid (show endS seed n j ids ws = finR n j sk ws (maxW ws j) (startS seed n ids) by unfold endS; rw [if_pos h0, HSKE.out])
        rcases HIT.out with h1 | ⟨b, off, rfl, hbl, hcs⟩
        · subst h1
          exact absurd h0 (by unfold maxW; omega)
        · have HFI := Lib.hid (fill_any w2.heap.size g (w2.heap.size + 1) w.heap.size n j b off c sk ids ws (maxW ws j) (startS seed n ids) wr KE.out (HSO.out h0) (by rw [HSKE.out]; exact HIO.out h0) rfl (by omega) n3 hmw.2 ⟨by omega, by omega, by omega⟩ (hcs.below KB.out hbl) hbl)
          rw [← HE.out] at HFI
          clear hcs HE h0
          generalize maxW ws j = mo at *
          go_wp2_with fail
          refine HFI.out.mono ?_
          rintro e w5 ⟨rfl, h5, b5⟩
          have M5 := Lib.hid h5
          have B5 := Lib.hid (KB.out.trans b5)
          clear h5 b5
          go_wp2_with fail
          refine bodyPost_ret (v := .tuple #[.pointer (some ⟨w2.heap.size, 0, none⟩), .int .i64 0]) (by simp [results, Try.results10, go_sem]) rfl ?_
          obtain ⟨cs, q1, q2⟩ := M5.out.p
          exact ⟨_, rfl, ⟨g, cs, M5.out.r, q1, q2⟩, B5.out⟩
      · have p2 : decide (0 < maxW ws j) = false := decide_eq_false h0
        have HE := Lib.hid (show endS seed n j ids ws = startS seed n ids by unfold endS; rw [if_neg h0])
        clear h0
        generalize maxW ws j = mo at *
        go_wp2_with fail
        refine bodyPost_ret (v := .tuple #[.pointer (some ⟨w2.heap.size, 0, none⟩), .int .i64 0]) (by simp [results, Try.results10, go_sem]) rfl ?_
        obtain ⟨cs, q1, q2⟩ := KE.out.p
        exact ⟨_, rfl, ⟨g, cs, KE.out.r, q1, by rw [HE.out]; exact q2⟩, KB.out⟩
end Go.Proofs.Ytjlochieddhmpaa.ringG
