/- Layer 39: an item takes a place. -/
import Derived.Test.YtjlochieddhmpaaRingC
import Derived.Deep.LoopGhost
namespace Go.Proofs.Ytjlochieddhmpaa.ringD
open Go.ChangeShapes Go.WideShapes Go.ChangeAt Go.RowKit
open Go.Proofs.Ytjlochieddhmpaa.base Go.Proofs.Ytjlochieddhmpaa.ringA Go.Proofs.Ytjlochieddhmpaa.ringB Go.Proofs.Ytjlochieddhmpaa.ringC
set_option linter.unusedVariables false

def AtA (n : Nat) (cs : Array Value) (f : Nat → Int) : Prop := cs.size = n ∧ ∀ i, i < n → cs[i]? = some (.int .i64 (f i))
theorem AtA.set {n : Nat} {cs : Array Value} {f : Nat → Int} (h : AtA n cs f) (k : Nat) (hk : k < n) (x : Int) : AtA n (cs.setIfInBounds k (.int .i64 x)) (upd f k x) := by
  refine ⟨by simp [h.1], fun i hi => ?_⟩
  rw [Array.getElem?_setIfInBounds]
  by_cases e : k = i
  · subst e
    rw [if_pos rfl, if_pos (by have := h.1; omega), upd_here]
  · rw [if_neg e, h.2 i hi, upd_far _ _ _ _ (Ne.symm e)]
theorem set_far (cs : Array Value) (k j : Nat) (v : Value) (h : k ≠ j) : (cs.setIfInBounds k v)[j]? = cs[j]? := by rw [Array.getElem?_setIfInBounds, if_neg h]
theorem set_here (cs : Array Value) (k : Nat) (v : Value) (h : k < cs.size) : (cs.setIfInBounds k v)[k]? = some v := by rw [Array.getElem?_setIfInBounds, if_pos rfl, if_pos h]
/-- Turns: each item's next place, how far its places are apart, what it is due. -/
def AtT (m : Nat) (cs : Array Value) (nx sk : Nat → Nat) (due : Nat → Int) : Prop := cs.size = 3 * m ∧ ∀ i, i < m → cs[i * 3]? = some (.int .i64 (nx i)) ∧ cs[i * 3 + 1]? = some (.int .i64 (sk i)) ∧ cs[i * 3 + 2]? = some (.int .i64 (due i))
theorem AtT.setNx {m : Nat} {cs : Array Value} {nx sk : Nat → Nat} {due : Nat → Int} (h : AtT m cs nx sk due) (k : Nat) (hk : k < m) (x : Nat) : AtT m (cs.setIfInBounds (k * 3) (.int .i64 x)) (upd nx k x) sk due := by
  refine ⟨by simp [h.1], fun i hi => ?_⟩
  obtain ⟨a, b, c⟩ := h.2 i hi
  rw [set_far _ _ _ _ (by omega : k * 3 ≠ i * 3 + 1), set_far _ _ _ _ (by omega : k * 3 ≠ i * 3 + 2)]
  refine ⟨?_, b, c⟩
  by_cases e : k = i
  · subst e
    rw [set_here _ _ _ (by have := h.1; omega), upd_here]
  · rw [set_far _ _ _ _ (by omega), a, upd_far _ _ _ _ (Ne.symm e)]
theorem AtT.setDue {m : Nat} {cs : Array Value} {nx sk : Nat → Nat} {due : Nat → Int} (h : AtT m cs nx sk due) (k : Nat) (hk : k < m) (x : Int) : AtT m (cs.setIfInBounds (k * 3 + 2) (.int .i64 x)) nx sk (upd due k x) := by
  refine ⟨by simp [h.1], fun i hi => ?_⟩
  obtain ⟨a, b, c⟩ := h.2 i hi
  rw [set_far _ _ _ _ (by omega : k * 3 + 2 ≠ i * 3), set_far _ _ _ _ (by omega : k * 3 + 2 ≠ i * 3 + 1)]
  refine ⟨a, b, ?_⟩
  by_cases e : k = i
  · subst e
    rw [set_here _ _ _ (by have := h.1; omega), upd_here]
  · rw [set_far _ _ _ _ (by omega), c, upd_far _ _ _ _ (Ne.symm e)]
/-- A table that is being filled, in memory. -/
structure MemR (w : World) (ra g tb size m : Nat) (sk : Nat → Nat) (s : Rs) : Prop where
  r : Blk w ra 44 #[.slice (some ⟨g, 0, none⟩) size size]
  p : ∃ cs, Blk w g 3 cs ∧ AtA size cs s.P
  t : ∃ ts, Blk w tb 49 ts ∧ AtT m ts s.nx sk s.due
  ne : ra ≠ g ∧ ra ≠ tb ∧ g ≠ tb
section
variable {w : World} {ra g tb size m : Nat} {sk : Nat → Nat} {s : Rs}
theorem MemR.drew (h : MemR w ra g tb size m sk s) : MemR w.drew ra g tb size m sk s := ⟨h.r, h.p, h.t, h.ne⟩
theorem MemR.drewN (h : MemR w ra g tb size m sk s) (n : Nat) : MemR (w.drewN n) ra g tb size m sk s := ⟨h.r, h.p, h.t, h.ne⟩
theorem MemR.setNx (h : MemR w ra g tb size m sk s) (i : Nat) (hi : i < m) (x : Nat) : MemR (w.setCell ⟨tb, i * 3, none⟩ (.int .i64 x)) ra g tb size m sk ⟨s.P, upd s.nx i x, s.due, s.free⟩ := by
  obtain ⟨cs, h1, h2⟩ := h.p
  obtain ⟨ts, h3, h4⟩ := h.t
  obtain ⟨n1, n2, n3⟩ := h.ne
  exact ⟨h.r.far (p := ⟨tb, i * 3, none⟩) n2 _, ⟨cs, h1.far (p := ⟨tb, i * 3, none⟩) n3 _, h2⟩, ⟨_, h3.set_ _ _, h4.setNx i hi x⟩, h.ne⟩
theorem MemR.setDue (h : MemR w ra g tb size m sk s) (i : Nat) (hi : i < m) (x : Int) : MemR (w.setCell ⟨tb, i * 3 + 2, none⟩ (.int .i64 x)) ra g tb size m sk ⟨s.P, s.nx, upd s.due i x, s.free⟩ := by
  obtain ⟨cs, h1, h2⟩ := h.p
  obtain ⟨ts, h3, h4⟩ := h.t
  obtain ⟨n1, n2, n3⟩ := h.ne
  exact ⟨h.r.far (p := ⟨tb, i * 3 + 2, none⟩) n2 _, ⟨cs, h1.far (p := ⟨tb, i * 3 + 2, none⟩) n3 _, h2⟩, ⟨_, h3.set_ _ _, h4.setDue i hi x⟩, h.ne⟩
theorem MemR.setP (h : MemR w ra g tb size m sk s) (q : Nat) (hq : q < size) (x : Int) : MemR (w.setCell ⟨g, q, none⟩ (.int .i64 x)) ra g tb size m sk ⟨upd s.P q x, s.nx, s.due, s.free⟩ := by
  obtain ⟨cs, h1, h2⟩ := h.p
  obtain ⟨ts, h3, h4⟩ := h.t
  obtain ⟨n1, n2, n3⟩ := h.ne
  exact ⟨h.r.far (p := ⟨g, q, none⟩) n1 _, ⟨_, h1.set_ _ _, h2.set q hq x⟩, ⟨ts, h3.far (p := ⟨g, q, none⟩) (Ne.symm n3) _, h4⟩, h.ne⟩
theorem MemR.cells (h : MemR w ra g tb size m sk s) (i : Nat) (hi : i < m) : w.cell? ⟨ra, 0, none⟩ = some (.slice (some ⟨g, 0, none⟩) size size) ∧ w.cell? ⟨tb, i * 3, none⟩ = some (.int .i64 (s.nx i)) ∧ w.cell? ⟨tb, i * 3 + 1, none⟩ = some (.int .i64 (sk i)) ∧ w.cell? ⟨tb, i * 3 + 2, none⟩ = some (.int .i64 (s.due i)) ∧ (∀ j, w.frozen? ⟨tb, j, none⟩ = false) ∧ (∀ j, w.frozen? ⟨g, j, none⟩ = false) ∧ ∀ q, q < size → w.cell? ⟨g, q, none⟩ = some (.int .i64 (s.P q)) := by
  obtain ⟨cs, h1, h2⟩ := h.p
  obtain ⟨ts, h3, h4⟩ := h.t
  obtain ⟨a, b, c⟩ := h4.2 i hi
  exact ⟨h.r.cell 0, (h3.cell _).trans a, (h3.cell _).trans b, (h3.cell _).trans c, fun j => h3.frozen j, fun j => h1.frozen j, fun q hq => (h1.cell q).trans (h2.2 q hq)⟩
theorem MemR.same (h : MemR w ra g tb size m sk s) {n : Nat → Nat} {f : Nat} (e : n = s.nx) : MemR w ra g tb size m sk ⟨s.P, n, s.due, f⟩ := by
  rw [e]
  exact ⟨h.r, h.p, h.t, h.ne⟩
end
theorem upd_same {α : Type} (f : Nat → α) (k : Nat) : upd f k (f k) = f := by
  funext i
  unfold upd
  split
  · rename_i e; rw [e]
  · rfl
set_option maxHeartbeats 1000000 in
theorem take_any (ra g tb B size m i : Nat) (sk : Nat → Nat) (s : Rs) (w : World) (h : MemR w ra g tb size m sk s) (hi : i < m) (hm : m ≤ 1000) (hs : size ≤ 65537) (hk : sk i ≤ 65537) (hF : FreeP s.P (sk i) size size (s.nx i)) (hB : B ≤ ra ∧ B ≤ g ∧ B ≤ tb) (hv : ∀ q, q < size → s.P q < 0 → s.P q = -1) :
    Calls Try.prog 29 #[.pointer (some ⟨ra, 0, none⟩), .pointer (some ⟨tb, i * 3, none⟩), .int .i64 i] w fun e w' => e = .returned (.tuple #[]) ∧ MemR w' ra g tb size m sk (takeS size (sk i) s i) ∧ Below B w w' := by
  have HM := Lib.hid h
  have HF := Lib.hid hF
  have HV := Lib.hid hv
  obtain ⟨P0, hP0⟩ : ∃ p, p = srch s.P (sk i) size size (s.nx i) := ⟨_, rfl⟩
  have HP0 := Lib.hid hP0
  have HT := Lib.hid (show takeS size (sk i) s i = ⟨upd s.P P0 (i : Int), upd s.nx i P0, s.due, s.free - 1⟩ by rw [hP0]; rfl)
  rw [HT.out]
  clear h hF hv hP0
  go_enter Try.func29, Try.ntmps29
  go_wp2_with fail
  go_loopg [] size (fun f wr => ∃ p : Nat, FreeP s.P (sk i) size f p ∧ srch s.P (sk i) size f p = P0 ∧ MemR wr ra g tb size m sk ⟨s.P, upd s.nx i p, s.due, s.free⟩ ∧ Below B w wr)
  case atStart => exact ⟨s.nx i, HF.out, HP0.out.symm, by rw [upd_same]; exact HM.out, Below.refl _ _⟩
  case round =>
    obtain ⟨p, hFr, hsr, hMR, hbel⟩ := hrel
    have ps := hFr.1
    have hcs := hMR.cells i hi
    dsimp only at hcs
    rw [upd_here] at hcs
    obtain ⟨c0, c1, c2, c3, f1, f2, cP⟩ := hcs
    have f10 := f1 (i * 3)
    have f2p := f2 p
    have cp := cP p ps
    have KF := Lib.hid hFr
    have KS := Lib.hid hsr
    have KM := Lib.hid hMR
    have KB := Lib.hid hbel
    clear hFr hsr hMR hbel f1 f2 cP c3
    by_cases hp : s.P p < 0
    · have hp1 : s.P p = -1 := HV.out p ps hp
      have cp1 : wr.cell? ⟨g, p, none⟩ = some (.int .i64 (-1)) := by rw [cp, hp1]
      have e0 : p = P0 := by rw [← KS.out, srch_stop KF.out hp]
      have HF := Lib.hid (show MemR (wr.setCell ⟨g, P0, none⟩ (.int .i64 i)).drew.drew ra g tb size m sk ⟨upd s.P P0 (i : Int), upd s.nx i P0, s.due, s.free - 1⟩ by
        have := ((KM.out.setP p ps (i : Int)).drew.drew)
        rw [e0] at this
        exact ⟨this.r, this.p, this.t, this.ne⟩)
      have HBF := Lib.hid (show Below B w (wr.setCell ⟨g, P0, none⟩ (.int .i64 i)).drew.drew from (KB.out.setCell (p := ⟨g, P0, none⟩) hB.2.1 _).drew.drew)
      rw [e0] at c1 cp1 f2p
      clear cp
      go_wp2_with fail
      go_region
      go_wp2_with fail
      go_region
      all_goals
        go_wp2_with fail
        exact bodyPost_end (v := .tuple #[]) (by simp [results, Try.results29, go_sem]) rfl ⟨rfl, HF.out, HBF.out⟩
    · have q0 : (s.P p != -1) = true := by simp; omega
      obtain ⟨f', rfl⟩ : ∃ f', gk = f' + 1 := ⟨gk - 1, by obtain ⟨_, k, hk, _⟩ := KF.out; omega⟩
      have e1 : IntKind.i64.wrap ((p : Int) + (sk i : Nat)) = (p : Int) + (sk i : Nat) := IntWalk.i64_in _ (by omega)
      have HN := Lib.hid (free_step KF.out hp)
      have HS := Lib.hid ((srch_go hp).symm.trans KS.out)
      have e2 : ((p : Int) + (sk i : Nat)) % (size : Int) = (((p + sk i) % size : Nat) : Int) := by rw [Int.natCast_emod, Int.natCast_add]
      generalize (p + sk i) % size = r at *
      have HX := Lib.hid (show MemR (wr.setCell ⟨tb, i * 3, none⟩ (.int .i64 r)).drew.drew ra g tb size m sk ⟨s.P, upd s.nx i r, s.due, s.free⟩ by
        have := (KM.out.setNx i hi r).drew.drew
        dsimp only at this
        rw [upd_upd] at this
        exact this)
      have HBX := Lib.hid (show Below B w (wr.setCell ⟨tb, i * 3, none⟩ (.int .i64 r)).drew.drew from (KB.out.setCell (p := ⟨tb, i * 3, none⟩) hB.2.2 _).drew.drew)
      have s0 : 0 < size := by omega
      go_wp2_with fail
      go_region
      go_wp2_with fail
      go_region
      all_goals
        go_wp2_with fail
        go_roundg f'
        case measure => omega
        case rel => exact ⟨r, HN.out, HS.out, HX.out, HBX.out⟩
end Go.Proofs.Ytjlochieddhmpaa.ringD
