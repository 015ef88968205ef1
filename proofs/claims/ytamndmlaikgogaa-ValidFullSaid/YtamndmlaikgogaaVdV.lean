/- Layer 19: the law ValidFull. -/
import Derived.Test.YtamndmlaikgogaaVdT
namespace Go.Proofs.Ytamndmlaikgogaa.vdV
open Go.ChangeShapes Go.WideShapes Go.ChangeAt Go.RowKit
open Go.Proofs.Ytamndmlaikgogaa.base Go.Proofs.Ytamndmlaikgogaa.dfA Go.Proofs.Ytamndmlaikgogaa.treB Go.Proofs.Ytamndmlaikgogaa.treD Go.Proofs.Ytamndmlaikgogaa.treG Go.Proofs.Ytamndmlaikgogaa.treH Go.Proofs.Ytamndmlaikgogaa.treI Go.Proofs.Ytamndmlaikgogaa.vdA Go.Proofs.Ytamndmlaikgogaa.vdB Go.Proofs.Ytamndmlaikgogaa.vdC Go.Proofs.Ytamndmlaikgogaa.vdD Go.Proofs.Ytamndmlaikgogaa.vdE Go.Proofs.Ytamndmlaikgogaa.vdH Go.Proofs.Ytamndmlaikgogaa.vdI Go.Proofs.Ytamndmlaikgogaa.vdJ Go.Proofs.Ytamndmlaikgogaa.vdN Go.Proofs.Ytamndmlaikgogaa.vdQ Go.Proofs.Ytamndmlaikgogaa.vdP Go.Proofs.Ytamndmlaikgogaa.vdT
set_option linter.unusedVariables false

def lvl : Nd := ⟨⟨#[108]⟩, 1, -1, 0, false, 0, 0⟩
def mkV (i : Nat) : Vp := ⟨false, 0, 0, 17, i, 8, false⟩
def mkW (i : Nat) : Vw := ⟨false, 0, i, 32, 0⟩
def vsL (n : Nat) : List Vp := (List.range n).map mkV
def wsL (n : Nat) : List Vw := (List.range n).map mkW
theorem vs_len (n : Nat) : (vsL n).length = n := by simp [vsL]
theorem ws_len (n : Nat) : (wsL n).length = n := by simp [wsL]
theorem vs_at {n j : Nat} (h : j < n) : (vsL n).getD j zVp = mkV j := by
  unfold vsL; rw [List.getD_eq_getElem?_getD, List.getElem?_map, List.getElem?_range h]; rfl
theorem ws_at {n j : Nat} (h : j < n) : (wsL n).getD j zVw = mkW j := by
  unfold wsL; rw [List.getD_eq_getElem?_getD, List.getElem?_map, List.getElem?_range h]; rfl
def fulC (g : Nat) (vA : Option Addr) (vc nv : Nat) (wA : Option Addr) (wc nw : Nat) : Cf := ⟨some ⟨g, 0, none⟩, 1, [lvl], vA, vc, vsL nv, wA, wc, wsL nw, 100, 3, false, 0, 0, false, 0, 0⟩
theorem vipZ_mk {j : Nat} (h : j ≤ 70) : vipZ (mkV j) = 0 := by
  have h0 : rightB (mkV j).v6 (mkV j).hi (mkV j).lo = true := rfl
  have h1 : (mkV j).po = (j : Int) := rfl
  have h2 : (mkV j).co = 8 := rfl
  have h3 : (mkV j).pr = 17 := rfl
  unfold vipZ
  rw [h0, h1, h2, h3, if_neg (by decide), if_neg (by omega), if_neg (by omega)]
theorem vips_0 {n : Nat} (hn : n ≤ 70) : vipsE (vsL n) = 0 := by
  unfold vipsE
  refine fst_zero fun j hj => ?_
  rw [vs_len] at hj
  unfold vipW
  rw [vs_at hj, vipZ_mk (by omega), if_neg (by decide)]
  have h : hasV (vsL n) (mkV j) j = false := by
    cases e : hasV (vsL n) (mkV j) j with
    | false => rfl
    | true =>
      unfold hasV at e
      rw [List.any_eq_true] at e
      obtain ⟨k, hk, h2⟩ := e
      rw [List.mem_range] at hk
      rw [vs_at (by omega)] at h2
      unfold twV at h2
      rw [Bool.and_eq_true] at h2
      have h3 : ((k : Int) == (j : Int)) = true := h2.2
      rw [beq_iff_eq] at h3
      omega
  rw [h, if_neg (by decide)]
theorem prB_mk {j : Nat} (h : j ≤ 70) : prB false 0 (j : Int) 32 = true := by
  have h0 : rightB false 0 (j : Int) = true := by
    unfold rightB
    rw [decide_eq_true (show (j : Int) < 4294967296 by omega)]
    rfl
  have h1 : cutN false 32 = 32 := by unfold cutN; rfl
  have h2 : mkLo false (j : Int) 32 = j := by
    unfold mkLo maskZ
    rw [h1, if_neg (by decide), show ((32 : Int) - 32).toNat = 0 from rfl]
    simp
  have h3 : mkHi false 0 32 = 0 := rfl
  unfold prB
  rw [h0, h2, h3]
  simp
theorem viewZ_mk {j : Nat} (h : j ≤ 70) : viewZ 1 (mkW j) = 0 := by
  have h0 : prB (mkW j).v6 (mkW j).hi (mkW j).lo (mkW j).bits = true := prB_mk h
  have h1 : (mkW j).lev = 0 := rfl
  unfold viewZ
  rw [h0, h1, if_neg (by decide), if_neg (by decide)]
theorem views_0 {n : Nat} (hn : n ≤ 70) : viewsE 1 (wsL n) = 0 := by
  unfold viewsE
  refine fst_zero fun j hj => ?_
  rw [ws_len] at hj
  unfold viewW
  rw [ws_at hj, viewZ_mk (by omega), if_neg (by decide)]
  have h : hasW (wsL n) (mkW j) j = false := by
    cases e : hasW (wsL n) (mkW j) j with
    | false => rfl
    | true =>
      unfold hasW at e
      rw [List.any_eq_true] at e
      obtain ⟨k, hk, h2⟩ := e
      rw [List.mem_range] at hk
      rw [ws_at (by omega)] at h2
      unfold twW at h2
      simp only [Bool.and_eq_true] at h2
      have h3 : ((k : Int) == (j : Int)) = true := h2.1.2
      rw [beq_iff_eq] at h3
      omega
  rw [h, if_neg (by decide)]
theorem ful_conf (g : Nat) (vA : Option Addr) (vc nv : Nat) (wA : Option Addr) (wc nw : Nat) (h1 : nv ≤ 70) (h2 : nw ≤ 70) : confE (fulC g vA vc nv wA wc nw) = if 64 < nv ∨ 64 < nw then 6 else 0 := by
  have hp : plainZ (fulC g vA vc nv wA wc nw) = if 64 < nv ∨ 64 < nw then 6 else 0 := by
    unfold plainZ
    have e1 : (fulC g vA vc nv wA wc nw).fac = 100 := rfl
    have e2 : (fulC g vA vc nv wA wc nw).dom = 3 := rfl
    have e3 : (fulC g vA vc nv wA wc nw).vps.length = nv := vs_len nv
    have e4 : (fulC g vA vc nv wA wc nw).vws.length = nw := ws_len nw
    have e5 : ¬ ((fulC g vA vc nv wA wc nw).a6 = true ∨ rightB (fulC g vA vc nv wA wc nw).a6 (fulC g vA vc nv wA wc nw).ah (fulC g vA vc nv wA wc nw).al = false ∨ ((fulC g vA vc nv wA wc nw).b6 = false ∧ zA (fulC g vA vc nv wA wc nw).b6 (fulC g vA vc nv wA wc nw).bh (fulC g vA vc nv wA wc nw).bl = false)) := by
      show ¬ (false = true ∨ rightB false 0 0 = false ∨ (false = false ∧ zA false 0 0 = false))
      decide
    rw [e1, e2, e3, e4, if_neg (by omega), if_neg e5]
  have ht : treeE (fulC g vA vc nv wA wc nw).nds = 0 := by
    show treeE [lvl] = 0
    kernel_rfl
  have hl : lackE (fulC g vA vc nv wA wc nw) (fulC g vA vc nv wA wc nw).nds.length = false := by
    show lackE (fulC g vA vc nv wA wc nw) 1 = false
    rfl
  have hlv : levN (fulC g vA vc nv wA wc nw) = 1 := rfl
  unfold confE restZ
  rw [ht, hl, hlv, hp]
  by_cases h : 64 < nv ∨ 64 < nw
  · rw [if_pos h]; rfl
  · rw [if_neg h]
    rw [if_neg (by decide), if_neg (by decide), if_neg (by decide)]
    show (if vipsE (vsL nv) ≠ 0 then vipsE (vsL nv) else viewsE 1 (wsL nw)) = 0
    rw [vips_0 h1, views_0 h2]
    rfl
def fV (j : Nat) : List Value := (mkV j).cells.toList
def fW (j : Nat) : List Value := (mkW j).cells.toList
theorem fV_len (j : Nat) : (fV j).length = 7 := rfl
theorem fW_len (j : Nat) : (fW j).length = 5 := rfl
theorem fV_one (j : Nat) : ∀ u ∈ fV j, u.oneCell' = true := fun u hu => by
  have hu2 : u ∈ [Value.bool false, .int .u64 0, .int .u64 0, .int .i64 17, .int .i64 (j : Int), .int .i64 8, .bool false] := hu
  simp only [List.mem_cons, List.not_mem_nil, or_false] at hu2
  rcases hu2 with rfl | rfl | rfl | rfl | rfl | rfl | rfl <;> rfl
theorem fW_one (j : Nat) : ∀ u ∈ fW j, u.oneCell' = true := fun u hu => by
  have hu2 : u ∈ [Value.bool false, .int .u64 0, .int .u64 (j : Int), .int .i64 32, .int .i64 0] := hu
  simp only [List.mem_cons, List.not_mem_nil, or_false] at hu2
  rcases hu2 with rfl | rfl | rfl | rfl | rfl <;> rfl
theorem own_someK {w : World} {B k : Nat} {e : TypeId} {v : Value} {n : Nat} {xs : List Value} (h : w.ownsRow B e k v (n + 1) xs) : ∃ g cap, v = .slice (some ⟨g, 0, none⟩) (n + 1) cap ∧ B ≤ g ∧ g < w.heap.size := by
  rcases h.2 with ⟨_, h0⟩ | ⟨g, cap, cur, h1, h2, h3, _⟩
  · omega
  · exact ⟨g, cap, h1, h2, (h.lt g (by rw [h1]; rfl)).2⟩
theorem cells_new (w : World) (cs : Array Value) (t : TypeId) (xs : List Value) (h : cs.toList = xs) : ∀ j u, xs[j]? = some u → (w.alloc (.cells cs t)).cell? ((⟨w.heap.size, 0, none⟩ : Addr).add j) = some u := by
  intro j u hu
  rw [Addr.add_lit, Nat.zero_add, (Blk.new w t cs).cell j, ← hu, ← h]
  simp
/-- While the law fills a list: what was below the configuration stays; the configuration itself; the list is the law's own. -/
structure Fil (w w2 : World) (C B : Nat) (t : TypeId) (k : Nat) (f : Nat → List Value) (W : World) (cs : Array Value) (v : Value) (n : Nat) : Prop where
  own : W.ownsRow B t k v n (flatR f n)
  blk : Blk W C 30 cs
  old : ∀ g, g < w2.heap.size → g ≠ C → W.heap[g]? = w2.heap[g]?
  size : w2.heap.size ≤ W.heap.size
  bel : Below w.heap.size w W
theorem Fil.next {w w2 W W2 W3 : World} {C B k n x : Nat} {t : TypeId} {f : Nat → List Value} {cs : Array Value} {v v' : Value} (h : Fil w w2 C B t k f W cs v n) (hB : w2.heap.size ≤ B) (hC : C < w2.heap.size) (hw : w.heap.size ≤ C)
    (h2 : Below W.heap.size W W2) (ho : W3.ownsRow B t k v' (n + 1) (flatR f n ++ f n)) (hg : W2.grownBy W3 v.ownBlock) : Fil w w2 C B t k f (W3.setCell ⟨C, x, none⟩ v') (cs.setIfInBounds x v') v' (n + 1) where
  own := by
    rw [flatR_succ]
    refine own_far ho fun g e => Below.heap_setCell W3 _ v' g ?_
    have := (World.ownsRow.lt ho g e).1
    show g ≠ C
    omega
  blk := by
    have hne : some C ≠ v.ownBlock := fun e => by
      have := (World.ownsRow.lt h.own C e.symm).1
      omega
    exact ((h.blk.below h2 h.blk.lt).grown hg hne).set_ x v'
  old := fun g h1 h3 => by
    have hne : some g ≠ v.ownBlock := fun e => by
      have := (World.ownsRow.lt h.own g e.symm).1
      omega
    have h4 : g < W.heap.size := Nat.lt_of_lt_of_le h1 h.size
    rw [Below.heap_setCell W3 _ v' g (by show g ≠ C; exact h3), hg.block g (Nat.lt_of_lt_of_le h4 h2.size) hne, h2.block g h4, h.old g h1 h3]
  size := by
    have h5 := h2.size
    have h6 := hg.size
    have h7 : (W3.setCell ⟨C, x, none⟩ v').heap.size = W3.heap.size := by simp
    have := h.size
    omega
  bel := by
    have h5 := h.bel.size
    have hne : ∀ g, g < w.heap.size → some g ≠ v.ownBlock := fun g hg2 e => by
      have := (World.ownsRow.lt h.own g e.symm).1
      omega
    have h8 : Below w.heap.size w W3 := (h.bel.trans (h2.mono h5)).grown hg (Nat.le_trans h5 h2.size) (fun k hk => by have := (World.ownsRow.lt h.own k hk).1; omega)
    exact h8.setCell hw v'
end Go.Proofs.Ytamndmlaikgogaa.vdV
