/- Layer 16: the law of TreeLooks. -/
import Derived.Test.YtndlgdjkldnfiaaTreN
import Derived.Test.YtndlgdjkldnfiaaTreW
import Derived.Deep.DeepCutAuto
namespace Go.Proofs.Ytndlgdjkldnfiaa.treO
open Go.ChangeShapes Go.WideShapes Go.ChangeAt Go.RowKit
open Go.Proofs.Ytndlgdjkldnfiaa.base Go.Proofs.Ytndlgdjkldnfiaa.dfA Go.Proofs.Ytndlgdjkldnfiaa.treA Go.Proofs.Ytndlgdjkldnfiaa.treB Go.Proofs.Ytndlgdjkldnfiaa.treC Go.Proofs.Ytndlgdjkldnfiaa.treD Go.Proofs.Ytndlgdjkldnfiaa.treE Go.Proofs.Ytndlgdjkldnfiaa.treG Go.Proofs.Ytndlgdjkldnfiaa.treH Go.Proofs.Ytndlgdjkldnfiaa.treI Go.Proofs.Ytndlgdjkldnfiaa.treJ Go.Proofs.Ytndlgdjkldnfiaa.treM Go.Proofs.Ytndlgdjkldnfiaa.treN Go.Proofs.Ytndlgdjkldnfiaa.treW
set_option linter.unusedVariables false

theorem node_eq (e : Nd) (W : World) : (binOp .eql 34 (.agg e.cells) (.agg e.cells)).run Try.prog W = .ok (.bool true) W := by
  unfold Nd.cells
  go_simp
theorem node_ne (e : Nd) (W : World) : (binOp .neq 34 (.agg e.cells) (.agg e.cells)).run Try.prog W = .ok (.bool false) W := by
  unfold Nd.cells
  go_simp
/-- Three lists of the call's own, apart from each other. -/
structure Tri (B : Nat) (w : World) (v1 v2 v3 : Value) (l1 l2 l3 : List Int) : Prop where
  o1 : OwnI w B v1 l1
  o2 : OwnI w B v2 l2
  o3 : OwnI w B v3 l3
  d12 : ∀ g, v1.ownBlock = some g → v2.ownBlock ≠ some g
  d13 : ∀ g, v1.ownBlock = some g → v3.ownBlock ≠ some g
  d23 : ∀ g, v2.ownBlock = some g → v3.ownBlock ≠ some g
theorem Tri.nil (B : Nat) (w : World) : Tri B w (.slice none 0 0) (.slice none 0 0) (.slice none 0 0) [] [] [] :=
  ⟨World.ownsRow_nil _ _ _ 1, World.ownsRow_nil _ _ _ 1, World.ownsRow_nil _ _ _ 1, (fun g e => by cases e), (fun g e => by cases e), (fun g e => by cases e)⟩
section
variable {B : Nat} {w w1 w2 : World} {v1 v2 v3 v1' : Value} {l1 l2 l3 : List Int}
theorem Tri.swap (h : Tri B w v1 v2 v3 l1 l2 l3) : Tri B w v2 v1 v3 l2 l1 l3 := ⟨h.o2, h.o1, h.o3, fun g a b => h.d12 g b a, h.d23, h.d13⟩
theorem Tri.rot (h : Tri B w v1 v2 v3 l1 l2 l3) : Tri B w v3 v1 v2 l3 l1 l2 := ⟨h.o3, h.o1, h.o2, fun g a b => h.d13 g b a, fun g a b => h.d23 g b a, h.d12⟩
theorem Tri.below (h : Tri B w v1 v2 v3 l1 l2 l3) (hb : Below w.heap.size w w1) : Tri B w1 v1 v2 v3 l1 l2 l3 := ⟨h.o1.below hb, h.o2.below hb, h.o3.below hb, h.d12, h.d13, h.d23⟩
theorem Tri.far (h : Tri B w v1 v2 v3 l1 l2 l3) (hb : ∀ k, B ≤ k → w1.heap[k]? = w.heap[k]?) : Tri B w1 v1 v2 v3 l1 l2 l3 :=
  ⟨h.o1.far fun k e => hb k (h.o1.lt k e).1, h.o2.far fun k e => hb k (h.o2.lt k e).1, h.o3.far fun k e => hb k (h.o3.lt k e).1, h.d12, h.d13, h.d23⟩
/-- One more in the first. -/
theorem Tri.app {x : Int} (h : Tri B w v1 v2 v3 l1 l2 l3) (hb : Below w.heap.size w w1) (ho : w2.ownsRow B 3 1 v1' (l1.length + 1) (l1.map (Value.int .i64) ++ [.int .i64 x])) (hg : w1.grownBy w2 v1.ownBlock)
    (hn : ∀ g, v1'.ownBlock = some g → v1.ownBlock = some g ∨ w1.heap.size ≤ g) : Tri B w2 v1' v2 v3 (l1 ++ [x]) l2 l3 := by
  have key : ∀ k, k < w.heap.size → v1.ownBlock ≠ some k → w2.heap[k]? = w.heap[k]? := fun k h1 h2 =>
    (hg.block k (Nat.lt_of_lt_of_le h1 hb.size) (fun e => h2 e.symm)).trans (hb.block k h1)
  refine ⟨OwnI.snoc ho, h.o2.far fun k e => key k (h.o2.lt k e).2 (fun e1 => h.d12 k e1 e), h.o3.far fun k e => key k (h.o3.lt k e).2 (fun e1 => h.d13 k e1 e), fun g e1 e2 => ?_, fun g e1 e2 => ?_, h.d23⟩
  · rcases hn g e1 with h1 | h1
    · exact h.d12 g h1 e2
    · have := (h.o2.lt g e2).2; have := hb.size; omega
  · rcases hn g e1 with h1 | h1
    · exact h.d13 g h1 e2
    · have := (h.o3.lt g e2).2; have := hb.size; omega
end
theorem rd_far {w w' : World} {A : Option Addr} {m : List Nd} (h : RdN w A m) (hb : ∀ ad : Addr, A = some ad → w'.heap[ad.block]? = w.heap[ad.block]?) (hs : w.heap.size ≤ w'.heap.size) : RdN w' A m := by
  rcases h with h0 | ⟨b, off, h1, h2, h3⟩
  · exact .inl h0
  · refine .inr ⟨b, off, h1, Nat.lt_of_lt_of_le h2 hs, fun j hj i hi => ?_⟩
    rw [← h3 j hj i hi]
    unfold World.cell?
    rw [hb _ h1]
/-- The law's own lists, the node that is wanted, and the nodes that were told. -/
structure St (B : Nat) (w2 : World) (A : Option Addr) (m : List Nd) (w : World) (v1 v2 v3 : Value) (l1 l2 l3 : List Int) (e : Nd) : Prop where
  tri : Tri B w v1 v2 v3 l1 l2 l3
  want : Blk w w2.heap.size 34 e.cells
  rd : RdN w A m
  bel : Below w2.heap.size w2 w
  size : B ≤ w.heap.size
  gB : w2.heap.size < B
  aB : ∀ ad : Addr, A = some ad → w2.heap.size + 1 ≤ ad.block ∧ ad.block < B
section
variable {B : Nat} {w0 w w1 w2 : World} {A : Option Addr} {m : List Nd} {v1 v2 v3 v1' : Value} {l1 l2 l3 : List Int} {e : Nd}
theorem St.swap (h : St B w0 A m w v1 v2 v3 l1 l2 l3 e) : St B w0 A m w v2 v1 v3 l2 l1 l3 e := ⟨h.tri.swap, h.want, h.rd, h.bel, h.size, h.gB, h.aB⟩
theorem St.rot (h : St B w0 A m w v1 v2 v3 l1 l2 l3 e) : St B w0 A m w v3 v1 v2 l3 l1 l2 e := ⟨h.tri.rot, h.want, h.rd, h.bel, h.size, h.gB, h.aB⟩
theorem St.below (h : St B w0 A m w v1 v2 v3 l1 l2 l3 e) (hb : Below w.heap.size w w1) : St B w0 A m w1 v1 v2 v3 l1 l2 l3 e :=
  ⟨h.tri.below hb, h.want.below hb h.want.lt, h.rd.below hb, h.bel.trans (hb.mono h.bel.size), Nat.le_trans h.size hb.size, h.gB, h.aB⟩
theorem St.app {x : Int} (h : St B w0 A m w v1 v2 v3 l1 l2 l3 e) (hb : Below w.heap.size w w1) (ho : w2.ownsRow B 3 1 v1' (l1.length + 1) (l1.map (Value.int .i64) ++ [.int .i64 x])) (hg : w1.grownBy w2 v1.ownBlock)
    (hn : ∀ g, v1'.ownBlock = some g → v1.ownBlock = some g ∨ w1.heap.size ≤ g) : St B w0 A m w2 v1' v2 v3 (l1 ++ [x]) l2 l3 e := by
  have h1 := h.below hb
  have far : ∀ k, k < B → some k ≠ v1.ownBlock := fun k hk e1 => by have := (h.tri.o1.lt k e1.symm).1; omega
  exact ⟨h.tri.app hb ho hg hn, h1.want.grown hg (far _ h.gB), rd_far h1.rd (fun ad ha => hg.block _ (by have := (h.aB ad ha).2; have := h1.size; omega) (far _ (h.aB ad ha).2)) hg.size,
    h1.bel.grown hg h1.bel.size (fun k hk => by have := (h.tri.o1.lt k hk).1; have := h.gB; omega), Nat.le_trans h1.size hg.size, h.gB, h.aB⟩
theorem St.store (h : St B w0 A m w v1 v2 v3 l1 l2 l3 e) (e' : Nd) : St B w0 A m (w.setRow w0.heap.size e'.cells) v1 v2 v3 l1 l2 l3 e' := by
  have hsz : (w.setRow w0.heap.size e'.cells).heap.size = w.heap.size := by unfold World.setRow; simp
  exact ⟨h.tri.far (fun k hk => setRow_other _ _ _ _ (by have := h.gB; omega)), setRow_heap _ _ _ e'.cells _ (0, 0) h.want, rd_far h.rd (fun ad ha => setRow_other _ _ _ _ (by have := (h.aB ad ha).1; omega)) (Nat.le_of_eq hsz.symm),
    below_row h.bel (Nat.le_refl _) _, by rw [hsz]; exact h.size, h.gB, h.aB⟩
end
theorem wantW_0 (m : List Nd) (i : Int) : wantW m i 0 = zNd := by
  unfold wantW
  rw [show isB i 0 = false from by unfold isB; simp only [Bool.and_eq_false_iff, decide_eq_false_iff_not]; omega]; rfl
theorem len_tree {w : World} {T : Nat} {m : List Nd} (h : TreeOk w T m) : Calls Try.prog 13 #[.pointer (some ⟨T, 0, none⟩)] w fun e w' => e = .returned (.int .i64 m.length) ∧ Below w.heap.size w w' := by
  obtain ⟨A, c, K, kc, ht⟩ := h.at_
  exact len_any ht
theorem node_tree {w : World} {T : Nat} {m : List Nd} (h : TreeOk w T m) (i : Int) : Calls Try.prog 14 #[.pointer (some ⟨T, 0, none⟩), .int .i64 i] w fun e w' => e = .returned (.agg (ndAt m i).cells) ∧ Below w.heap.size w w' := by
  obtain ⟨A, c, K, kc, ht⟩ := h.at_
  exact node_any ht i
theorem levels_tree {w : World} {T : Nat} {m : List Nd} (h : TreeOk w T m) : Calls Try.prog 17 #[.pointer (some ⟨T, 0, none⟩)] w fun o w' => ∃ v, o = .returned v ∧ OwnI w' w.heap.size v (ofK m 1 m.length) ∧ Below w.heap.size w w' := by
  obtain ⟨A, c, K, kc, ht⟩ := h.at_
  exact levels_any ht (by have := h.len; omega)
theorem hosts_tree {w : World} {T : Nat} {m : List Nd} (h : TreeOk w T m) : Calls Try.prog 18 #[.pointer (some ⟨T, 0, none⟩)] w fun o w' => ∃ v, o = .returned v ∧ OwnI w' w.heap.size v (ofK m 4 m.length) ∧ Below w.heap.size w w' := by
  obtain ⟨A, c, K, kc, ht⟩ := h.at_
  exact hosts_any ht (by have := h.len; omega)
set_option maxRecDepth 100000 in
set_option maxHeartbeats 32000000 in
theorem looks_any (A : Option Addr) (n c : Nat) (l : List Nd) (i : Int) (s : ByteArray) (w : World) (hr : RdN w A l) (hl : l.length ≤ 60) (hcap : l.length ≤ c) (hcap2 : c ≤ 9223372036854775807) (hnm : ∀ j (hj : j < l.length), (l[j]).nm.size ≤ 9223372036854775807)
    (hfew : ∀ W', Calls Try.prog 7 #[.slice A n c] W' fun o w' => o = .returned (.slice A l.length c) ∧ Below W'.heap.size W' w') :
    Calls Try.prog 5 #[.slice A n c, .int .i64 i, .string s] w fun o w' => o = .returned (.bool true) ∧ Below w.heap.size w w' := by
  obtain ⟨i0, hi0, hz0, hz1, hz2⟩ := info_parts info_i
  have HI0 := Lib.hid hi0
  have HZ0 := Lib.hid hz0
  have HZ1 := Lib.hid hz1
  have HZ2 := Lib.hid hz2
  clear hi0 hz0 hz1 hz2
  have HMD := Lib.hid (made_any A n c l w hr hl hcap hcap2 hnm hfew)
  clear hr hl hcap hcap2 hnm hfew
  go_enter Try.func5, Try.ntmps5
  go_wp2_with fail
  refine HMD.out.mono ?_
  rintro o w1 ⟨T, m, A1, c1, rfl, hT, hrd, hm60, hmc, hmc2, hb1⟩
  have B1 := Lib.hid hb1
  have HT1 := Lib.hid hT
  have HR1 := Lib.hid hrd
  have HF := Lib.hid (fine_of hT.good)
  have HLE := Lib.hid (len_tree hT)
  clear hT hrd hb1
  go_wp2_with fail
  refine HLE.out.mono ?_
  rintro o w2 ⟨rfl, hb2⟩
  have B2 := Lib.hid (B1.out.trans (hb2.mono B1.out.size))
  have HT2 := Lib.hid (HT1.out.below hb2)
  have HR2 := Lib.hid (HR1.out.below hb2)
  clear hb2
  have q1 : ((m.length : Int) != (m.length : Int)) = false := by simp
  go_wp2_with fail
  obtain ⟨w3, hw3⟩ : ∃ w3, w3 = w2.alloc (.cells #[.string ⟨#[]⟩, .int .i64 0, .int .i64 0, .int .i64 0, .bool false, .int .u64 0, .int .u64 0] 34) := ⟨_, rfl⟩
  rw [← hw3]
  have BA3 := Lib.hid (show Below w2.heap.size w2 w3 from hw3 ▸ (Below.refl w2.heap.size w2).alloc (Nat.le_refl _) _)
  have HZ3 := Lib.hid (show Blk w3 w2.heap.size 34 zNd.cells from hw3 ▸ Blk.new w2 _ _)
  have HS3 := Lib.hid (show w3.heap.size = w2.heap.size + 1 by rw [hw3]; simp)
  clear hw3
  refine (nodes_any (HT2.out.below BA3.out)).mono ?_
  rintro o w4 ⟨A3, c3, rfl, p1, p2, hrd3, hb4, hap⟩
  have S0 := Lib.hid (show St w4.heap.size w2 A3 m w4 (.slice none 0 0) (.slice none 0 0) (.slice none 0 0) [] [] [] zNd from
    ⟨Tri.nil _ _, HZ3.out.below hb4 HZ3.out.lt, hrd3, BA3.out.trans (hb4.mono BA3.out.size), Nat.le_refl _, by have := HS3.out; have := hb4.size; omega, fun ad ha => by have := hap ad ha; have := HS3.out; omega⟩)
  have HC := Lib.hid (show ∀ W k (hk : k < m.length), Below w2.heap.size w2 W → ∃ b off, A1 = some ⟨b, off, none⟩ ∧ ∀ q, q < 7 → W.cell? ⟨b, off + k * 7 + q, none⟩ = (m[k]).cells[q]? from fun W k hk hb => by
    obtain ⟨b, off, h1, h2, h3⟩ := (HR2.out.below hb).at_ k hk
    exact ⟨b, off, h1, h3⟩)
  obtain ⟨mn, hmn⟩ : ∃ mn, mn = m.length := ⟨_, rfl⟩
  have HMN := Lib.hid hmn
  rw [← hmn] at hmc hm60 p1
  clear hrd3 hb4 hap hmn q1
  have q1 : ((mn : Int) != (mn : Int)) = false := by simp
  rw [← HMN.out]
  go_wp2_with fail
  go_loopw [9, 10, 11, 12, 15] (fun v1 v2 v3 f iv wr => ∃ k : Nat, iv = .int .i64 k ∧ k ≤ mn ∧ f = .int .i64 (findW m s k) ∧ Hid (St w4.heap.size w2 A3 m wr v1 v2 v3 (kidW m i k) (ofK m 1 k) (ofK m 4 k) (wantW m i k))) (fun _ _ _ _ iv _ => mn - (intOf iv).toNat)
  case atStart => exact ⟨0, rfl, by omega, rfl, by rw [wantW_0]; exact S0⟩
  case round =>
    obtain ⟨k, rfl, hk, rfl, HS⟩ := hrel
    by_cases hkn : k < mn
    · have t1 : decide ((k : Int) < mn) = true := decide_eq_true (by omega)
      have hjl : k < m.length := HMN.out ▸ hkn
      obtain ⟨e, he⟩ : ∃ e, e = m[k] := ⟨_, rfl⟩
      have HE := Lib.hid he
      have HNK := Lib.hid (show kidW m i (k + 1) = if (e.ab == i && decide (0 ≤ i)) = true then kidW m i k ++ [(k : Int)] else kidW m i k by rw [he]; exact kidW_next i hjl)
      have HN1 := Lib.hid (show ofK m 1 (k + 1) = ofK m 1 k ++ (if (e.kind == 1) = true then [(k : Int)] else []) by rw [he]; exact ofK_next hjl)
      have HN4 := Lib.hid (show ofK m 4 (k + 1) = ofK m 4 k ++ (if (e.kind == 4) = true then [(k : Int)] else []) by rw [he]; exact ofK_next hjl)
      have HNF := Lib.hid (show findW m s (k + 1) = if (e.nm.toList == s.toList) = true then (k : Int) else findW m s k by rw [he]; exact findW_next s hjl)
      have HNW := Lib.hid (show (k : Int) = i → wantW m i (k + 1) = e from fun h => by subst h; rw [he]; exact wantW_here hjl)
      have HNV := Lib.hid (show (k : Int) ≠ i → wantW m i (k + 1) = wantW m i k from fun h => wantW_next h)
      have L1 := Lib.hid (kidW_len m i k)
      have L2 := Lib.hid (ofK_len m 1 k)
      have L3 := Lib.hid (ofK_len m 4 k)
      obtain ⟨b, off, hA, hd⟩ := HC.out wr.drew k hjl HS.out.bel.drew
      obtain ⟨b3, off3, hA3, hbl3, hx⟩ := HS.out.rd.at_ k hjl
      subst hA hA3
      rw [← he] at hd hx
      have j0 : (0 : Int) ≤ k := by omega
      have j1 : (k : Int) < mn := by omega
      have d0 : wr.drew.cell? ⟨b, off + k * 7, none⟩ = some (.string e.nm) := hd 0 (by omega)
      have d1 : wr.drew.cell? ⟨b, off + k * 7 + 1, none⟩ = some (.int .i64 e.kind) := hd 1 (by omega)
      have d2 : wr.drew.cell? ⟨b, off + k * 7 + 2, none⟩ = some (.int .i64 e.ab) := hd 2 (by omega)
      have d3 : wr.drew.cell? ⟨b, off + k * 7 + 3, none⟩ = some (.int .i64 e.wt) := hd 3 (by omega)
      have d4 : wr.drew.cell? ⟨b, off + k * 7 + 4, none⟩ = some (.bool e.v6) := hd 4 (by omega)
      have d5 : wr.drew.cell? ⟨b, off + k * 7 + 5, none⟩ = some (.int .u64 e.hi) := hd 5 (by omega)
      have d6 : wr.drew.cell? ⟨b, off + k * 7 + 6, none⟩ = some (.int .u64 e.lo) := hd 6 (by omega)
      have x0 : wr.drew.cell? ⟨b3, off3 + k * 7, none⟩ = some (.string e.nm) := hx 0 (by omega)
      have x1 : wr.drew.cell? ⟨b3, off3 + k * 7 + 1, none⟩ = some (.int .i64 e.kind) := hx 1 (by omega)
      have x2 : wr.drew.cell? ⟨b3, off3 + k * 7 + 2, none⟩ = some (.int .i64 e.ab) := hx 2 (by omega)
      have x3 : wr.drew.cell? ⟨b3, off3 + k * 7 + 3, none⟩ = some (.int .i64 e.wt) := hx 3 (by omega)
      have x4 : wr.drew.cell? ⟨b3, off3 + k * 7 + 4, none⟩ = some (.bool e.v6) := hx 4 (by omega)
      have x5 : wr.drew.cell? ⟨b3, off3 + k * 7 + 5, none⟩ = some (.int .u64 e.hi) := hx 5 (by omega)
      have x6 : wr.drew.cell? ⟨b3, off3 + k * 7 + 6, none⟩ = some (.int .u64 e.lo) := hx 6 (by omega)
      have s0 : wr.drew.cell? ⟨b, off + k * 7, none⟩ = some (.string e.nm) ∧ wr.drew.cell? ⟨b, off + k * 7 + 1, none⟩ = some (.int .i64 e.kind) ∧ wr.drew.cell? ⟨b, off + k * 7 + 2, none⟩ = some (.int .i64 e.ab) ∧ wr.drew.cell? ⟨b, off + k * 7 + 3, none⟩ = some (.int .i64 e.wt) ∧ wr.drew.cell? ⟨b, off + k * 7 + 4, none⟩ = some (.bool e.v6) ∧ wr.drew.cell? ⟨b, off + k * 7 + 5, none⟩ = some (.int .u64 e.hi) ∧ wr.drew.cell? ⟨b, off + k * 7 + 6, none⟩ = some (.int .u64 e.lo) ∧ wr.drew.cell? ⟨b3, off3 + k * 7, none⟩ = some (.string e.nm) ∧ wr.drew.cell? ⟨b3, off3 + k * 7 + 1, none⟩ = some (.int .i64 e.kind) ∧ wr.drew.cell? ⟨b3, off3 + k * 7 + 2, none⟩ = some (.int .i64 e.ab) ∧ wr.drew.cell? ⟨b3, off3 + k * 7 + 3, none⟩ = some (.int .i64 e.wt) ∧ wr.drew.cell? ⟨b3, off3 + k * 7 + 4, none⟩ = some (.bool e.v6) ∧ wr.drew.cell? ⟨b3, off3 + k * 7 + 5, none⟩ = some (.int .u64 e.hi) ∧ wr.drew.cell? ⟨b3, off3 + k * 7 + 6, none⟩ = some (.int .u64 e.lo) := ⟨d0, d1, d2, d3, d4, d5, d6, x0, x1, x2, x3, x4, x5, x6⟩
      have hne := node_ne e
      unfold Nd.cells at hne
      clear hd hx he d0 d1 d2 d3 d4 d5 d6 x0 x1 x2 x3 x4 x5 x6
      go_wp2_with fail
      go_region_held3 (fun w' => w'.cell? ⟨b, off + k * 7, none⟩ = some (.string e.nm) ∧ w'.cell? ⟨b, off + k * 7 + 1, none⟩ = some (.int .i64 e.kind) ∧ w'.cell? ⟨b, off + k * 7 + 2, none⟩ = some (.int .i64 e.ab) ∧ w'.cell? ⟨b, off + k * 7 + 3, none⟩ = some (.int .i64 e.wt) ∧ w'.cell? ⟨b, off + k * 7 + 4, none⟩ = some (.bool e.v6) ∧ w'.cell? ⟨b, off + k * 7 + 5, none⟩ = some (.int .u64 e.hi) ∧ w'.cell? ⟨b, off + k * 7 + 6, none⟩ = some (.int .u64 e.lo) ∧ w'.cell? ⟨b3, off3 + k * 7, none⟩ = some (.string e.nm) ∧ w'.cell? ⟨b3, off3 + k * 7 + 1, none⟩ = some (.int .i64 e.kind) ∧ w'.cell? ⟨b3, off3 + k * 7 + 2, none⟩ = some (.int .i64 e.ab) ∧ w'.cell? ⟨b3, off3 + k * 7 + 3, none⟩ = some (.int .i64 e.wt) ∧ w'.cell? ⟨b3, off3 + k * 7 + 4, none⟩ = some (.bool e.v6) ∧ w'.cell? ⟨b3, off3 + k * 7 + 5, none⟩ = some (.int .u64 e.hi) ∧ w'.cell? ⟨b3, off3 + k * 7 + 6, none⟩ = some (.int .u64 e.lo)) (assumption) (first | fail)
      go_upto_region 15 with fail
      have HS1 := Lib.hid (HS.out.below (Below.refl _ _).drew)
      have LK := Lib.hid (show k < 60 by omega)
      obtain ⟨b', off', hA', hd⟩ := HC.out (wr.drew) k (HMN.out ▸ hkn) (HS1.out.bel)
      injection hA' with hA'
      injection hA' with hb' ho'
      subst hb' ho'
      rw [← HE.out] at hd
      have d2 : World.cell? wr.drew ⟨b, off + k * 7 + 2, none⟩ = some (.int .i64 e.ab) := hd 2 (by omega)
      clear hd
      go_cut [63] (fun v wx => v = .bool (e.ab == i && decide (0 ≤ i)) ∧ wx = wr.drew)
      case first =>
        cases h1 : (e.ab == i) with
        | true =>
          cases h2 : decide (0 ≤ i) with
          | true => go_wp2_with fail; go_meet; exact ⟨by rw [h1, h2]; rfl, rfl⟩
          | false => go_wp2_with fail; go_meet; exact ⟨by rw [h1, h2]; rfl, rfl⟩
        | false => go_wp2_with fail; go_meet; exact ⟨by rw [h1]; rfl, rfl⟩
      case rest =>
        obtain ⟨rfl, rfl⟩ := hcut
        clear d2
        go_upto_if 63 with fail
        go_cut [9] (fun x9 wx => Hid (St w4.heap.size w2 (some ⟨b3, off3, none⟩) m wx x9 u10 u11 (kidW m i (k + 1)) (ofK m 1 k) (ofK m 4 k) (wantW m i k)))
        case first =>
          cases hq : (e.ab == i && decide (0 ≤ i)) with
          | true =>
            rw [hq, if_pos rfl] at HNK
            have HP := Lib.hid (HS1.out)
            have BA := Lib.hid (show Below wr.drew.heap.size wr.drew (wr.drew.alloc (.cells #[.int .i64 k] 3)) from (Below.refl _ _).alloc (Nat.le_refl _) _)
            have KO2 := Lib.hid ((HP.out.below BA.out).tri.o1)
            have HNE := Lib.hid (show ∀ p u, [Value.int .i64 k][p]? = some u → (wr.drew.alloc (.cells #[.int .i64 k] 3)).cell? ((⟨wr.drew.heap.size, 0, none⟩ : Addr).add p) = some u from fun p u hu => by
              rw [Addr.add_lit, Nat.zero_add, (Blk.new wr.drew 3 #[.int .i64 k]).cell p]
              have h2 : (#[Value.int .i64 k])[p]? = some u := by simpa using hu
              exact h2)
            have H1 := Lib.hid (show ∀ u ∈ [Value.int .i64 (k : Int)], u.oneCell' = true from fun u hu => by simp at hu; subst hu; rfl)
            have P1 := Lib.hid (show (kidW m i k).length + 1 ≤ maxLen by unfold maxLen; have := L1.out; have := L2.out; have := L3.out; have := LK.out; omega)
            have P2 := Lib.hid (show ((kidW m i k).length + 1) * 8 ≤ 140737488355328 by have := L1.out; have := L2.out; have := L3.out; have := LK.out; omega)
            have P3 := Lib.hid (show w4.heap.size ≤ (wr.drew.alloc (.cells #[.int .i64 k] 3)).heap.size from (HP.out.below BA.out).size)
            go_wp2_with (at_builtin; refine wpList_append_new _ rfl (.tmp 64) (.tmp 66) _ rfl w4.heap.size 3 i0 _ 1 8 Try.underlying40 HI0.out HZ0.out HZ1.out HZ2.out rfl (by omega) _ (kidW m i k).length ((kidW m i k).map (Value.int .i64)) rfl KO2.out ⟨wr.drew.heap.size, 0, none⟩ 1 1 [.int .i64 k] rfl (by omega) rfl HNE.out H1.out P1.out P2.out P3.out ?_; intro v6 w6 ho hg hn; have HQ := Lib.hid ((HP.out.app BA.out ho hg hn)); clear ho hg hn)
            go_meet
            rw [HNK.out]
            exact HQ
          | false =>
            rw [hq, if_neg (by decide)] at HNK
            go_wp2_with fail
            go_meet
            rw [HNK.out]
            exact HS1
        case rest =>
          have HS2 := hcut
          clear hcut
          have L1' := Lib.hid (kidW_len m i (k + 1))
          obtain ⟨b', off', hA', hd⟩ := HC.out (wc) k (HMN.out ▸ hkn) (HS2.out.bel)
          injection hA' with hA'
          injection hA' with hb' ho'
          subst hb' ho'
          rw [← HE.out] at hd
          have d1 : World.cell? wc ⟨b, off + k * 7 + 1, none⟩ = some (.int .i64 e.kind) := hd 1 (by omega)
          clear hd
          go_upto_if 73 with fail
          go_cut [10] (fun x10 wx => Hid (St w4.heap.size w2 (some ⟨b3, off3, none⟩) m wx u9 x10 u11 (kidW m i (k + 1)) (ofK m 1 (k + 1)) (ofK m 4 k) (wantW m i k)))
          case first =>
            cases hq : (e.kind == 1) with
            | true =>
              rw [hq, if_pos rfl] at HN1
              have HP := Lib.hid (HS2.out.swap)
              have BA := Lib.hid (show Below wc.heap.size wc (wc.alloc (.cells #[.int .i64 k] 3)) from (Below.refl _ _).alloc (Nat.le_refl _) _)
              have KO2 := Lib.hid ((HP.out.below BA.out).tri.o1)
              have HNE := Lib.hid (show ∀ p u, [Value.int .i64 k][p]? = some u → (wc.alloc (.cells #[.int .i64 k] 3)).cell? ((⟨wc.heap.size, 0, none⟩ : Addr).add p) = some u from fun p u hu => by
                rw [Addr.add_lit, Nat.zero_add, (Blk.new wc 3 #[.int .i64 k]).cell p]
                have h2 : (#[Value.int .i64 k])[p]? = some u := by simpa using hu
                exact h2)
              have H1 := Lib.hid (show ∀ u ∈ [Value.int .i64 (k : Int)], u.oneCell' = true from fun u hu => by simp at hu; subst hu; rfl)
              have P1 := Lib.hid (show (ofK m 1 k).length + 1 ≤ maxLen by unfold maxLen; have := L1.out; have := L2.out; have := L3.out; have := LK.out; omega)
              have P2 := Lib.hid (show ((ofK m 1 k).length + 1) * 8 ≤ 140737488355328 by have := L1.out; have := L2.out; have := L3.out; have := LK.out; omega)
              have P3 := Lib.hid (show w4.heap.size ≤ (wc.alloc (.cells #[.int .i64 k] 3)).heap.size from (HP.out.below BA.out).size)
              go_wp2_with (at_builtin; refine wpList_append_new _ rfl (.tmp 74) (.tmp 76) _ rfl w4.heap.size 3 i0 _ 1 8 Try.underlying40 HI0.out HZ0.out HZ1.out HZ2.out rfl (by omega) _ (ofK m 1 k).length ((ofK m 1 k).map (Value.int .i64)) rfl KO2.out ⟨wc.heap.size, 0, none⟩ 1 1 [.int .i64 k] rfl (by omega) rfl HNE.out H1.out P1.out P2.out P3.out ?_; intro v6 w6 ho hg hn; have HQ := Lib.hid ((HP.out.app BA.out ho hg hn).swap); clear ho hg hn)
              go_meet
              rw [HN1.out]
              exact HQ
            | false =>
              rw [hq, if_neg (by decide), List.append_nil] at HN1
              go_wp2_with fail
              go_meet
              rw [HN1.out]
              exact HS2
          case rest =>
            have HS3 := hcut
            clear hcut d1
            obtain ⟨b', off', hA', hd⟩ := HC.out (wc) k (HMN.out ▸ hkn) (HS3.out.bel)
            injection hA' with hA'
            injection hA' with hb' ho'
            subst hb' ho'
            rw [← HE.out] at hd
            have d1 : World.cell? wc ⟨b, off + k * 7 + 1, none⟩ = some (.int .i64 e.kind) := hd 1 (by omega)
            clear hd
            go_upto_if 83 with fail
            go_cut [11] (fun x11 wx => Hid (St w4.heap.size w2 (some ⟨b3, off3, none⟩) m wx u9 u10 x11 (kidW m i (k + 1)) (ofK m 1 (k + 1)) (ofK m 4 (k + 1)) (wantW m i k)))
            case first =>
              cases hq : (e.kind == 4) with
              | true =>
                rw [hq, if_pos rfl] at HN4
                have HP := Lib.hid (HS3.out.rot)
                have BA := Lib.hid (show Below wc.heap.size wc (wc.alloc (.cells #[.int .i64 k] 3)) from (Below.refl _ _).alloc (Nat.le_refl _) _)
                have KO2 := Lib.hid ((HP.out.below BA.out).tri.o1)
                have HNE := Lib.hid (show ∀ p u, [Value.int .i64 k][p]? = some u → (wc.alloc (.cells #[.int .i64 k] 3)).cell? ((⟨wc.heap.size, 0, none⟩ : Addr).add p) = some u from fun p u hu => by
                  rw [Addr.add_lit, Nat.zero_add, (Blk.new wc 3 #[.int .i64 k]).cell p]
                  have h2 : (#[Value.int .i64 k])[p]? = some u := by simpa using hu
                  exact h2)
                have H1 := Lib.hid (show ∀ u ∈ [Value.int .i64 (k : Int)], u.oneCell' = true from fun u hu => by simp at hu; subst hu; rfl)
                have P1 := Lib.hid (show (ofK m 4 k).length + 1 ≤ maxLen by unfold maxLen; have := L1.out; have := L2.out; have := L3.out; have := LK.out; omega)
                have P2 := Lib.hid (show ((ofK m 4 k).length + 1) * 8 ≤ 140737488355328 by have := L1.out; have := L2.out; have := L3.out; have := LK.out; omega)
                have P3 := Lib.hid (show w4.heap.size ≤ (wc.alloc (.cells #[.int .i64 k] 3)).heap.size from (HP.out.below BA.out).size)
                go_wp2_with (at_builtin; refine wpList_append_new _ rfl (.tmp 84) (.tmp 86) _ rfl w4.heap.size 3 i0 _ 1 8 Try.underlying40 HI0.out HZ0.out HZ1.out HZ2.out rfl (by omega) _ (ofK m 4 k).length ((ofK m 4 k).map (Value.int .i64)) rfl KO2.out ⟨wc.heap.size, 0, none⟩ 1 1 [.int .i64 k] rfl (by omega) rfl HNE.out H1.out P1.out P2.out P3.out ?_; intro v6 w6 ho hg hn; have HQ := Lib.hid ((HP.out.app BA.out ho hg hn).rot.rot); clear ho hg hn)
                go_meet
                rw [HN4.out]
                exact HQ
              | false =>
                rw [hq, if_neg (by decide), List.append_nil] at HN4
                go_wp2_with fail
                go_meet
                rw [HN4.out]
                exact HS3
            case rest =>
              have HS4 := hcut
              clear hcut d1
              obtain ⟨b', off', hA', hd⟩ := HC.out (wc) k (HMN.out ▸ hkn) (HS4.out.bel)
              injection hA' with hA'
              injection hA' with hb' ho'
              subst hb' ho'
              rw [← HE.out] at hd
              have d0 : World.cell? wc ⟨b, off + k * 7, none⟩ = some (.string e.nm) := hd 0 (by omega)
              have d1 : World.cell? wc ⟨b, off + k * 7 + 1, none⟩ = some (.int .i64 e.kind) := hd 1 (by omega)
              have d2 : World.cell? wc ⟨b, off + k * 7 + 2, none⟩ = some (.int .i64 e.ab) := hd 2 (by omega)
              have d3 : World.cell? wc ⟨b, off + k * 7 + 3, none⟩ = some (.int .i64 e.wt) := hd 3 (by omega)
              have d4 : World.cell? wc ⟨b, off + k * 7 + 4, none⟩ = some (.bool e.v6) := hd 4 (by omega)
              have d5 : World.cell? wc ⟨b, off + k * 7 + 5, none⟩ = some (.int .u64 e.hi) := hd 5 (by omega)
              have d6 : World.cell? wc ⟨b, off + k * 7 + 6, none⟩ = some (.int .u64 e.lo) := hd 6 (by omega)
              clear hd
              go_upto_if 94 with fail
              go_cut [12] (fun x12 wx => x12 = .int .i64 (findW m s (k + 1)) ∧ wx = wc)
              case first =>
                cases hq : (e.nm.toList == s.toList) with
                | true =>
                  rw [hq, if_pos rfl] at HNF
                  go_wp2_with fail
                  go_meet
                  exact ⟨by rw [HNF.out], rfl⟩
                | false =>
                  rw [hq, if_neg (by decide)] at HNF
                  go_wp2_with fail
                  go_meet
                  exact ⟨by rw [HNF.out], rfl⟩
              case rest =>
                obtain ⟨rfl, rfl⟩ := hcut
                have SZ := Lib.hid (HS4.out.store e)
                have HWB := Lib.hid (HS4.out.want)
                by_cases hki : (k : Int) = i
                · have HW9 := Lib.hid (HNW.out hki)
                  have t2 : ((k : Int) == i) = true := by simp [hki]
                  clear hki
                  go_wp2_with (refine wpList_store_row rfl 34 _ _ rfl w2.heap.size e.cells rfl rfl 34 (wantW m i k).cells HWB.out size_n rfl (one_n _) ?_)
                  go_roundw
                  case rel => exact ⟨k + 1, by go_num, by omega, rfl, by rw [HW9.out]; exact SZ⟩
                  case measure => simp [intOf]; omega
                · have HW9 := Lib.hid (HNV.out hki)
                  have t2 : ((k : Int) == i) = false := beq_false_of_ne hki
                  clear hki
                  go_wp2_with fail
                  go_roundw
                  case rel => exact ⟨k + 1, by go_num, by omega, rfl, by rw [HW9.out]; exact HS4⟩
                  case measure => simp [intOf]; omega
    · have t1 : decide ((k : Int) < mn) = false := decide_eq_false (by omega)
      obtain rfl : mn = k := by omega
      have BD := Lib.hid (show Below wr.heap.size wr wr.drew from (Below.refl _ _).drew)
      obtain ⟨e, he⟩ : ∃ e, e = ndAt m i := ⟨_, rfl⟩
      have BW := Lib.hid (show ∀ W, Below wr.heap.size wr W → Below w2.heap.size w2 W from fun W hb => HS.out.bel.trans (hb.mono HS.out.bel.size))
      have HND := Lib.hid (show ∀ W, Below wr.heap.size wr W → Calls Try.prog 14 #[.pointer (some ⟨T, 0, none⟩), .int .i64 i] W fun o w' => o = .returned (.agg e.cells) ∧ Below W.heap.size W w' from fun W hb => he ▸ node_tree (HT2.out.below (BW.out W hb)) i)
      have HKD := Lib.hid (show ∀ W, Below wr.heap.size wr W → Calls Try.prog 16 #[.pointer (some ⟨T, 0, none⟩), .int .i64 i] W fun o w' => ∃ v, o = .returned v ∧ ReadI w' v (kidsP m i) ∧ Below W.heap.size W w' from fun W hb => kids_any (HT2.out.below (BW.out W hb)) i)
      have HLV := Lib.hid (show ∀ W, Below wr.heap.size wr W → Calls Try.prog 17 #[.pointer (some ⟨T, 0, none⟩)] W fun o w' => ∃ v, o = .returned v ∧ OwnI w' W.heap.size v (ofK m 1 m.length) ∧ Below W.heap.size W w' from fun W hb => levels_tree (HT2.out.below (BW.out W hb)))
      have HHO := Lib.hid (show ∀ W, Below wr.heap.size wr W → Calls Try.prog 18 #[.pointer (some ⟨T, 0, none⟩)] W fun o w' => ∃ v, o = .returned v ∧ OwnI w' W.heap.size v (ofK m 4 m.length) ∧ Below W.heap.size W w' from fun W hb => hosts_tree (HT2.out.below (BW.out W hb)))
      have HFI := Lib.hid (show ∀ W, Below wr.heap.size wr W → Calls Try.prog 20 #[.pointer (some ⟨T, 0, none⟩), .string s] W fun o w' => o = .returned (.int .i64 (findW m s mn)) ∧ Below W.heap.size W w' from fun W hb => (find_any (HT2.out.below (BW.out W hb)) s).mono (by
        rintro o w' ⟨x, rfl, hx, hb2⟩
        have h1 := findW_is HF.out s
        rw [← HMN.out] at h1
        exact ⟨by rw [hx.uniq h1], hb2⟩))
      have HAW := Lib.hid (fun W => awake_any W)
      have R1 := Lib.hid (show ∀ W, Below wr.heap.size wr W → ReadI W u9 (kidsP m i) from fun W hb => by
        have h1 := read_own (HS.out.tri.o1.below hb)
        rw [HMN.out] at h1
        unfold kidsP
        cases hq : isB i m.length with
        | false => rw [if_neg (by decide)]; rwa [kidW_none HF.out hq _ (Nat.le_refl _)] at h1
        | true =>
          obtain ⟨a, rfl, ha⟩ := isB_of hq
          rw [if_pos rfl, Int.toNat_natCast]
          rwa [kidW_nat HF.out a _ (Nat.le_refl _)] at h1)
      have R2 := Lib.hid (show ∀ W, Below wr.heap.size wr W → ReadI W u10 (ofK m 1 m.length) from fun W hb => by
        have h1 := read_own (HS.out.tri.o2.below hb)
        rwa [HMN.out] at h1)
      have R3 := Lib.hid (show ∀ W, Below wr.heap.size wr W → ReadI W u11 (ofK m 4 m.length) from fun W hb => by
        have h1 := read_own (HS.out.tri.o3.below hb)
        rwa [HMN.out] at h1)
      have HSM := Lib.hid (fun v1 v2 l W h1 h2 => same_any v1 v2 l W h1 h2)
      have HSS := Lib.hid (show ∀ W, Below wr.heap.size wr W → (World.cell? W ⟨w2.heap.size, 0, none⟩ = some (.string e.nm) ∧ World.cell? W ⟨w2.heap.size, 1, none⟩ = some (.int .i64 e.kind) ∧ World.cell? W ⟨w2.heap.size, 2, none⟩ = some (.int .i64 e.ab) ∧ World.cell? W ⟨w2.heap.size, 3, none⟩ = some (.int .i64 e.wt) ∧ World.cell? W ⟨w2.heap.size, 4, none⟩ = some (.bool e.v6) ∧ World.cell? W ⟨w2.heap.size, 5, none⟩ = some (.int .u64 e.hi) ∧ World.cell? W ⟨w2.heap.size, 6, none⟩ = some (.int .u64 e.lo)) from fun W hb => by
        have h1 := HS.out.want.below hb HS.out.want.lt
        rw [HMN.out, wantW_end, ← he] at h1
        exact ⟨h1.cell 0, h1.cell 1, h1.cell 2, h1.cell 3, h1.cell 4, h1.cell 5, h1.cell 6⟩)
      have BWW := Lib.hid (show Below w.heap.size w wr from B2.out.trans (HS.out.bel.mono B2.out.size))
      have hne := node_eq e
      have s0 := HSS.out _ BD.out
      unfold Nd.cells at hne HND
      clear he
      go_wp2_with fail
      go_region_held3 (fun w' => World.cell? w' ⟨w2.heap.size, 0, none⟩ = some (.string e.nm) ∧ World.cell? w' ⟨w2.heap.size, 1, none⟩ = some (.int .i64 e.kind) ∧ World.cell? w' ⟨w2.heap.size, 2, none⟩ = some (.int .i64 e.ab) ∧ World.cell? w' ⟨w2.heap.size, 3, none⟩ = some (.int .i64 e.wt) ∧ World.cell? w' ⟨w2.heap.size, 4, none⟩ = some (.bool e.v6) ∧ World.cell? w' ⟨w2.heap.size, 5, none⟩ = some (.int .u64 e.hi) ∧ World.cell? w' ⟨w2.heap.size, 6, none⟩ = some (.int .u64 e.lo)) (first | with_reducible assumption)
        (first
          | (go_at_call 14
             (with_reducible refine (HND.out _ BD.out).mono ?_)
             rintro o wA ⟨rfl, hb⟩
             have BA := Lib.hid (BD.out.trans (hb.mono BD.out.size))
             have sA := HSS.out _ BA.out
             clear hb)
          | (go_at_call 16
             (with_reducible refine (HKD.out _ BA.out).mono ?_)
             rintro o wB ⟨vB, rfl, hv, hb⟩
             have BB := Lib.hid (BA.out.trans (hb.mono BA.out.size))
             have sB := HSS.out _ BB.out
             have M1 := Lib.hid (HSM.out vB u9 (kidsP m i) wB hv (R1.out _ BB.out))
             clear hv hb)
          | (go_at_call 24
             (with_reducible refine M1.out.mono ?_)
             rintro o wC ⟨rfl, hb⟩
             have BC := Lib.hid (BB.out.trans (hb.mono BB.out.size))
             have sC := HSS.out _ BC.out
             clear hb)
          | (go_at_call 17
             (with_reducible refine (HLV.out _ BC.out).mono ?_)
             rintro o wD ⟨vD, rfl, hv, hb⟩
             have BE := Lib.hid (BC.out.trans (hb.mono BC.out.size))
             have sD := HSS.out _ BE.out
             have M2 := Lib.hid (HSM.out vD u10 (ofK m 1 m.length) wD (read_own hv) (R2.out _ BE.out))
             clear hv hb)
          | (go_at_call 24
             (with_reducible refine M2.out.mono ?_)
             rintro o wF ⟨rfl, hb⟩
             have BF := Lib.hid (BE.out.trans (hb.mono BE.out.size))
             have sF := HSS.out _ BF.out
             clear hb)
          | (go_at_call 18
             (with_reducible refine (HHO.out _ BF.out).mono ?_)
             rintro o wG ⟨vG, rfl, hv, hb⟩
             have BG := Lib.hid (BF.out.trans (hb.mono BF.out.size))
             have sG := HSS.out _ BG.out
             have M3 := Lib.hid (HSM.out vG u11 (ofK m 4 m.length) wG (read_own hv) (R3.out _ BG.out))
             clear hv hb)
          | (go_at_call 24
             (with_reducible refine M3.out.mono ?_)
             rintro o wH ⟨rfl, hb⟩
             have BH := Lib.hid (BG.out.trans (hb.mono BG.out.size))
             have sH := HSS.out _ BH.out
             clear hb)
          | (go_at_call 20
             (with_reducible refine (HFI.out _ BH.out).mono ?_)
             rintro o wI ⟨rfl, hb⟩
             have BI := Lib.hid (BH.out.trans (hb.mono BH.out.size))
             have sI := HSS.out _ BI.out
             clear hb)
          | (go_at_call 12
             (with_reducible refine (HAW.out _).mono ?_)
             rintro o wJ ⟨rfl, hb⟩
             have BJ := Lib.hid (BI.out.trans (hb.mono BI.out.size))
             have sJ := HSS.out _ BJ.out
             clear hb))
      go_wp2_with fail
      go_ret
      exact ⟨rfl, BWW.out.trans (BJ.out.mono BWW.out.size)⟩
end Go.Proofs.Ytndlgdjkldnfiaa.treO
