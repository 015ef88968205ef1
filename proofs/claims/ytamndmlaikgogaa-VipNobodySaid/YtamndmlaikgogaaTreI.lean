/- Layer 16: tree.New. -/
import Derived.Test.YtamndmlaikgogaaTreH
import Derived.Deep.RegionLaw
import Derived.Deep.RegionHeld3
namespace Go.Proofs.Ytamndmlaikgogaa.treI
open Go.ChangeShapes Go.WideShapes Go.ChangeAt Go.RowKit
open Go.Proofs.Ytamndmlaikgogaa.base Go.Proofs.Ytamndmlaikgogaa.dfA Go.Proofs.Ytamndmlaikgogaa.treA Go.Proofs.Ytamndmlaikgogaa.treB Go.Proofs.Ytamndmlaikgogaa.treC Go.Proofs.Ytamndmlaikgogaa.treD Go.Proofs.Ytamndmlaikgogaa.treE Go.Proofs.Ytamndmlaikgogaa.treG Go.Proofs.Ytamndmlaikgogaa.treH
set_option linter.unusedVariables false

/-- What New tells of nodes l, and leaves. -/
def NewPost (l : List Nd) (w : World) (o : Ending) (w' : World) : Prop :=
  (∃ (i : Nat) (hi : i < l.length), GoodTo l i ∧ whyF (l.take i) l[i] ≠ 0 ∧ o = .returned (.tuple #[.pointer none, .int .i64 i, .int .i64 (whyF (l.take i) l[i])])) ∨
  (GoodTo l l.length ∧ ∃ nv kv ks, o = .returned (.tuple #[.pointer (some ⟨w.heap.size, 0, none⟩), .int .i64 0, .int .i64 0]) ∧ Grow w.heap.size w' l l.length (kidsL l l.length) nv kv ks)
theorem wp_let {P : Program} {c : Code} {Q : Exit → Act → World → Prop} {a : Act} {w : World} (h : ∀ Q', Q' = Q → c.wp P Q' a w) : c.wp P Q a w := h Q rfl
/-- Who may be for want of nothing may be. -/
theorem whyZ_of {l : List Nd} {n : Nd} (h : whyF l n = 0) : whyZ l n = 0 := by
  unfold whyF at h
  by_cases hz : whyZ l n = 0
  · exact hz
  · rw [if_neg hz] at h; exact absurd h hz
theorem frozen_far {w w' : World} {g i : Nat} {t : TypeId} {cs : Array Value} (h : Blk w g t cs) : w.frozen? ⟨g, i, none⟩ = false := h.frozen i
theorem own_some {w : World} {B : Nat} {e : TypeId} {size : Nat} {v : Value} {n : Nat} {xs : List Value} (h : w.ownsRow B e size v (n + 1) xs) : ∃ g cap, v = .slice (some ⟨g, 0, none⟩) (n + 1) cap := by
  rcases h.2 with ⟨_, h0⟩ | ⟨g, cap, cur, h1, _⟩
  · omega
  · exact ⟨g, cap, h1⟩
set_option maxRecDepth 100000 in
set_option maxHeartbeats 32000000 in
theorem new_any (A : Option Addr) (c : Nat) (l : List Nd) (w : World) (hr : RdN w A l) (hl : l.length ≤ 1000) (hcap : l.length ≤ c) (hcap2 : c ≤ 9223372036854775807) (hnm : ∀ j (hj : j < l.length), (l[j]).nm.size ≤ 9223372036854775807) :
    Calls Try.prog 27 #[.slice A l.length c] w fun o w' => NewPost l w o w' ∧ Below w.heap.size w w' := by
  obtain ⟨i0, hi0, hz0, hz1, hz2⟩ := info_parts info_n
  have HI0 := Lib.hid hi0
  have HZ0 := Lib.hid hz0
  have HZ1 := Lib.hid hz1
  have HZ2 := Lib.hid hz2
  obtain ⟨i1, hi1, hy0, hy1, hy2⟩ := info_parts info_s
  have HI1 := Lib.hid hi1
  have HY0 := Lib.hid hy0
  have HY1 := Lib.hid hy1
  have HY2 := Lib.hid hy2
  obtain ⟨i2, hi2, hx0, hx1, hx2⟩ := info_parts info_i
  have HI2 := Lib.hid hi2
  have HX0 := Lib.hid hx0
  have HX1 := Lib.hid hx1
  have HX2 := Lib.hid hx2
  have HR := Lib.hid hr
  have HNM := Lib.hid hnm
  have G0 := Lib.hid (Grow.new w)
  have B0 := Lib.hid ((Below.refl w.heap.size w).alloc (Nat.le_refl _) (.cells #[.slice none 0 0, .slice none 0 0] 85))
  obtain ⟨ln, hln⟩ : ∃ ln, ln = l.length := ⟨_, rfl⟩
  have HLN := Lib.hid hln
  rw [← hln] at hl hcap ⊢
  clear hi0 hz0 hz1 hz2 hi1 hy0 hy1 hy2 hi2 hx0 hx1 hx2 hr hnm hln
  go_enter Try.func27, Try.ntmps27
  go_wp2_with fail
  go_loopw [13] (fun i wr => ∃ (k : Nat) (nv kv : Value) (ks : List Value), i = .int .i64 k ∧ k ≤ ln ∧ Grow w.heap.size wr (l.take k) k (kidsL l k) nv kv ks ∧ GoodTo l k ∧ Below w.heap.size w wr) (fun i _ => ln - (intOf i).toNat)
  case atStart => exact ⟨0, _, _, _, rfl, by omega, G0.out, (fun j hj h => absurd h (by omega)), B0.out⟩
  case round =>
    obtain ⟨k, nv, kv, ks, rfl, hk, hgr, hgood, hbel⟩ := hrel
    have KG := Lib.hid hgr
    have KO := Lib.hid hgood
    have KB := Lib.hid hbel
    clear hgr hgood hbel
    by_cases hkn : k < ln
    · have t1 : decide ((k : Int) < ln) = true := decide_eq_true (by omega)
      have hjl : k < l.length := HLN.out ▸ hkn
      have hlen : (l.take k).length = k := by rw [List.length_take]; omega
      obtain ⟨L, hL⟩ : ∃ L, L = l.take k := ⟨_, rfl⟩
      rw [← hL] at KG hlen
      have HLE := Lib.hid hlen
      obtain ⟨b, off, hA, hbl, hC⟩ := (HR.out.below KB.out).at_ k hjl
      subst hA
      have HKN := Lib.hid (show kidsL l k k = [] from kidsL_none (by omega) (fun j hj hjk h1 h2 => by
        obtain ⟨a, ha, hal⟩ := above_in (whyZ_of (KO.out j hj hjk)) h1
        rw [List.length_take] at hal
        omega))
      have HKL := Lib.hid (show (l[k]).kind = 1 → kidsL l (k + 1) = kidsL l k from kidsL_level hjl)
      have HKS := Lib.hid (show ∀ a : Nat, (l[k]).kind ≠ 1 → (l[k]).ab = (a : Int) → kidsL l (k + 1) = setK (kidsL l k) a k from fun a => kidsL_sub hjl)
      have HNX := Lib.hid (fun h => KO.out.next hjl h)
      have HTK := Lib.hid (show l.take (k + 1) = L ++ [l[k]] by rw [List.take_succ_eq_append_getElem hjl, hL])
      have HNMK := Lib.hid (HNM.out k hjl)
      have HBAD := Lib.hid (show whyF (l.take k) l[k] ≠ 0 → ∀ W, NewPost l w (.returned (.tuple #[.pointer none, .int .i64 k, .int .i64 (whyF (l.take k) l[k])])) W from fun h W => .inl ⟨k, hjl, KO.out, h, rfl⟩)
      rw [← hL] at HNX HBAD
      obtain ⟨e, he⟩ : ∃ e, e = l[k] := ⟨_, rfl⟩
      rw [← he] at hC HNX HTK HNMK HBAD HKL HKS
      have d0 : wr.cell? ⟨b, off + k * 7, none⟩ = some (.string e.nm) := hC 0 (by omega)
      have d1 : wr.cell? ⟨b, off + k * 7 + 1, none⟩ = some (.int .i64 e.kind) := hC 1 (by omega)
      have d2 : wr.cell? ⟨b, off + k * 7 + 2, none⟩ = some (.int .i64 e.ab) := hC 2 (by omega)
      have d3 : wr.cell? ⟨b, off + k * 7 + 3, none⟩ = some (.int .i64 e.wt) := hC 3 (by omega)
      have d4 : wr.cell? ⟨b, off + k * 7 + 4, none⟩ = some (.bool e.v6) := hC 4 (by omega)
      have d5 : wr.cell? ⟨b, off + k * 7 + 5, none⟩ = some (.int .u64 e.hi) := hC 5 (by omega)
      have d6 : wr.cell? ⟨b, off + k * 7 + 6, none⟩ = some (.int .u64 e.lo) := hC 6 (by omega)
      have j0 : (0 : Int) ≤ k := by omega
      have j1 : (k : Int) < ln := by omega
      clear hC he hL hlen
      obtain ⟨w1, hw1⟩ : ∃ w1, w1 = wr.alloc (.cells #[.string e.nm, .int .i64 e.kind, .int .i64 e.ab, .int .i64 e.wt, .bool e.v6, .int .u64 e.hi, .int .u64 e.lo] 44) := ⟨_, rfl⟩
      have HA1 := Lib.hid (show Below wr.heap.size wr w1 from hw1 ▸ (Below.refl wr.heap.size wr).alloc (Nat.le_refl _) _)
      have HB1 := Lib.hid (show Blk w1 wr.heap.size 44 #[.string e.nm, .int .i64 e.kind, .int .i64 e.ab, .int .i64 e.wt, .bool e.v6, .int .u64 e.hi, .int .u64 e.lo] from hw1 ▸ Blk.new wr _ _)
      have HW1 := Lib.hid (show wr.alloc (.cells #[.string e.nm, .int .i64 e.kind, .int .i64 e.ab, .int .i64 e.wt, .bool e.v6, .int .u64 e.hi, .int .u64 e.lo] 44) = w1 from hw1.symm)
      have KG1 := Lib.hid (KG.out.below HA1.out)
      have KB1 := Lib.hid (KB.out.trans (HA1.out.mono KB.out.size))
      have HTT := Lib.hid (show w.heap.size ≠ wr.heap.size by have := KG.out.tree.lt; omega)
      have HBX := Lib.hid (show ∀ W, Below w1.heap.size w1 W → (W.cell? ⟨wr.heap.size, 0, none⟩ = some (.string e.nm) ∧ W.cell? ⟨wr.heap.size, 1, none⟩ = some (.int .i64 e.kind) ∧ W.cell? ⟨wr.heap.size, 2, none⟩ = some (.int .i64 e.ab) ∧ W.cell? ⟨wr.heap.size, 3, none⟩ = some (.int .i64 e.wt) ∧ W.cell? ⟨wr.heap.size, 4, none⟩ = some (.bool e.v6) ∧ W.cell? ⟨wr.heap.size, 5, none⟩ = some (.int .u64 e.hi) ∧ W.cell? ⟨wr.heap.size, 6, none⟩ = some (.int .u64 e.lo)) from fun W hb => by
        have h1 : Blk W wr.heap.size 44 #[.string e.nm, .int .i64 e.kind, .int .i64 e.ab, .int .i64 e.wt, .bool e.v6, .int .u64 e.hi, .int .u64 e.lo] := (hb.block _ HB1.out.lt).trans HB1.out
        exact ⟨h1.cell 0, h1.cell 1, h1.cell 2, h1.cell 3, h1.cell 4, h1.cell 5, h1.cell 6⟩)
      have HWY := Lib.hid (show Calls Try.prog 45 #[.pointer (some ⟨w.heap.size, 0, none⟩), .agg #[.string e.nm, .int .i64 e.kind, .int .i64 e.ab, .int .i64 e.wt, .bool e.v6, .int .u64 e.hi, .int .u64 e.lo]] w1 fun o w' => o = .returned (.int .i64 (whyZ L e)) ∧ Below w1.heap.size w1 w' from by
        obtain ⟨A2, c2, K2, kc2, ht, _⟩ := KG1.out.at_
        exact why_any ht e (by have := HLE.out; omega) HNMK.out)
      have HFU := Lib.hid (show ∀ W, Below w1.heap.size w1 W → Calls Try.prog 46 #[.pointer (some ⟨w.heap.size, 0, none⟩), .int .i64 e.kind] W fun o w' => o = .returned (.bool (fullB L e.kind)) ∧ Below W.heap.size W w' from fun W hb => by
        obtain ⟨A2, c2, K2, kc2, ht, _⟩ := (KG1.out.below hb).at_
        exact full_any ht e.kind (by have := HLE.out; omega))
      clear hw1
      go_wp2_with fail
      rw [HW1.out]
      refine HWY.out.mono ?_
      rintro o w2 ⟨rfl, hb2⟩
      have B2 := Lib.hid hb2
      clear hb2
      obtain ⟨x0, x1, x2, x3, x4, x5, x6⟩ := HBX.out _ B2.out
      obtain ⟨q, hq⟩ : ∃ q, q = whyZ L e := ⟨_, rfl⟩
      have HQ := Lib.hid hq
      rw [← hq]
      clear hq d0 d1 d2 d3 d4 d5 d6
      by_cases hq0 : q = 0
      · subst hq0
        go_wp2_with fail
        refine (HFU.out _ B2.out).mono ?_
        rintro o w3 ⟨rfl, hb3⟩
        have B3 := Lib.hid (B2.out.trans (hb3.mono B2.out.size))
        clear hb3 x0 x1 x2 x3 x4 x5 x6
        obtain ⟨x0, x1, x2, x3, x4, x5, x6⟩ := HBX.out _ B3.out
        cases hf : fullB L e.kind with
        | true =>
          have HZ := Lib.hid (show whyF L e = 6 by unfold whyF; rw [if_pos HQ.out.symm, if_pos hf])
          go_wp2_with fail
          go_ret3
          refine ⟨?_, KB1.out.trans (B3.out.mono KB1.out.size)⟩
          have h8 := HBAD.out (by rw [HZ.out]; decide) w3
          rw [HZ.out] at h8
          exact h8
        | false =>
          have HKD := Lib.hid (show e.kind = 1 ∨ e.kind ≠ 1 from by omega)
          have HZ := Lib.hid (show whyF L e = 0 by unfold whyF; rw [if_pos HQ.out.symm, hf, if_neg (by decide)])
          have KG3 := Lib.hid (KG1.out.below B3.out)
          have TT := KG3.out.tree
          have y0 : w3.cell? ⟨w.heap.size, 0, none⟩ = some nv := TT.cell 0
          have y1 : w3.cell? ⟨w.heap.size, 1, none⟩ = some kv := TT.cell 1
          have KGA := Lib.hid (show Below w3.heap.size w3 (w3.alloc (.cells #[.string e.nm, .int .i64 e.kind, .int .i64 e.ab, .int .i64 e.wt, .bool e.v6, .int .u64 e.hi, .int .u64 e.lo] 44)).drew from ((Below.refl _ _).alloc (Nat.le_refl _) _).drew)
          have HF3 := Lib.hid (show ∀ W, Below w3.heap.size w3 W → (W.cell? ⟨wr.heap.size, 0, none⟩ = some (.string e.nm) ∧ W.cell? ⟨wr.heap.size, 1, none⟩ = some (.int .i64 e.kind) ∧ W.cell? ⟨wr.heap.size, 2, none⟩ = some (.int .i64 e.ab) ∧ W.cell? ⟨wr.heap.size, 3, none⟩ = some (.int .i64 e.wt) ∧ W.cell? ⟨wr.heap.size, 4, none⟩ = some (.bool e.v6) ∧ W.cell? ⟨wr.heap.size, 5, none⟩ = some (.int .u64 e.hi) ∧ W.cell? ⟨wr.heap.size, 6, none⟩ = some (.int .u64 e.lo)) from fun W hb => HBX.out W (B3.out.trans (hb.mono B3.out.size)))
          have KA := Lib.hid (KG3.out.below KGA.out).nodes
          have HNE := Lib.hid (show ∀ p u, e.cells.toList[p]? = some u → (w3.alloc (.cells #[.string e.nm, .int .i64 e.kind, .int .i64 e.ab, .int .i64 e.wt, .bool e.v6, .int .u64 e.hi, .int .u64 e.lo] 44)).drew.cell? ((⟨w3.heap.size, 0, none⟩ : Addr).add p) = some u from fun p u hu => by
            have h3 : (w3.alloc (.cells #[.string e.nm, .int .i64 e.kind, .int .i64 e.ab, .int .i64 e.wt, .bool e.v6, .int .u64 e.hi, .int .u64 e.lo] 44)).drew.cell? ⟨w3.heap.size, p, none⟩ = (#[.string e.nm, .int .i64 e.kind, .int .i64 e.ab, .int .i64 e.wt, .bool e.v6, .int .u64 e.hi, .int .u64 e.lo])[p]? := (Blk.new w3 44 #[.string e.nm, .int .i64 e.kind, .int .i64 e.ab, .int .i64 e.wt, .bool e.v6, .int .u64 e.hi, .int .u64 e.lo]).drew.cell p
            rw [Addr.add_lit, Nat.zero_add, h3]
            have h2 : e.cells[p]? = some u := by simpa using hu
            exact h2)
          have P1 := Lib.hid (show L.length + 1 ≤ maxLen by unfold maxLen; have := HLE.out; omega)
          have P2 := Lib.hid (show (L.length + 1) * 64 ≤ 140737488355328 by have := HLE.out; omega)
          have P3 := Lib.hid (show w.heap.size + 1 ≤ (w3.alloc (.cells #[.string e.nm, .int .i64 e.kind, .int .i64 e.ab, .int .i64 e.wt, .bool e.v6, .int .u64 e.hi, .int .u64 e.lo] 44)).drew.heap.size by have := KG3.out.tree.lt; have := KGA.out.size; omega)
          have HC8 := Lib.hid (show ∀ W, (w3.alloc (.cells #[.string e.nm, .int .i64 e.kind, .int .i64 e.ab, .int .i64 e.wt, .bool e.v6, .int .u64 e.hi, .int .u64 e.lo] 44)).drew.grownBy W nv.ownBlock → Blk W w.heap.size 85 #[nv, kv] from fun W hg => (KG3.out.below KGA.out).tree.grown hg (fun e2 => by have := (KG3.out.nodes.lt _ e2.symm).1; omega))
          have HX8 := Lib.hid (show ∀ W, (w3.alloc (.cells #[.string e.nm, .int .i64 e.kind, .int .i64 e.ab, .int .i64 e.wt, .bool e.v6, .int .u64 e.hi, .int .u64 e.lo] 44)).drew.grownBy W nv.ownBlock → Blk W wr.heap.size 44 #[.string e.nm, .int .i64 e.kind, .int .i64 e.ab, .int .i64 e.wt, .bool e.v6, .int .u64 e.hi, .int .u64 e.lo] from fun W hg => (show Blk (w3.alloc (.cells #[.string e.nm, .int .i64 e.kind, .int .i64 e.ab, .int .i64 e.wt, .bool e.v6, .int .u64 e.hi, .int .u64 e.lo] 44)).drew wr.heap.size 44 #[.string e.nm, .int .i64 e.kind, .int .i64 e.ab, .int .i64 e.wt, .bool e.v6, .int .u64 e.hi, .int .u64 e.lo] from (KGA.out.block _ (Nat.lt_of_lt_of_le HB1.out.lt B3.out.size)).trans ((B3.out.block _ HB1.out.lt).trans HB1.out)).grown hg (fun e2 => by have := (KG.out.nodes.lt _ e2.symm).2; omega))
          have HB8 := Lib.hid (show ∀ W, (w3.alloc (.cells #[.string e.nm, .int .i64 e.kind, .int .i64 e.ab, .int .i64 e.wt, .bool e.v6, .int .u64 e.hi, .int .u64 e.lo] 44)).drew.grownBy W nv.ownBlock → Below w.heap.size w W from fun W hg => ((KB1.out.trans (B3.out.mono KB1.out.size)).trans (KGA.out.mono (KB1.out.trans (B3.out.mono KB1.out.size)).size)).grown hg (by have := P3.out; omega) (fun g e2 => by have := (KG3.out.nodes.lt _ e2).1; omega))
          go_wp2_with fail
          have s0 := HF3.out _ (Below.refl _ _).drew
          have y0 : w3.drew.cell? ⟨w.heap.size, 0, none⟩ = some nv := TT.cell 0
          clear x0 x1 x2 x3 x4 x5 x6 y1 TT
          have yA : (w3.alloc (.cells #[.string e.nm, .int .i64 e.kind, .int .i64 e.ab, .int .i64 e.wt, .bool e.v6, .int .u64 e.hi, .int .u64 e.lo] 44)).drew.cell? ⟨w.heap.size, 0, none⟩ = some nv := (show Blk (w3.alloc (.cells #[.string e.nm, .int .i64 e.kind, .int .i64 e.ab, .int .i64 e.wt, .bool e.v6, .int .u64 e.hi, .int .u64 e.lo] 44)).drew w.heap.size 85 #[nv, kv] from (KGA.out.block _ KG3.out.tree.lt).trans KG3.out.tree).cell 0
          obtain ⟨x0, x1, x2, x3, x4, x5, x6⟩ := s0
          go_region_law
            (first
              | (refine step_append_new rfl (.tmp 37) (.tmp 39) _ rfl (w.heap.size + 1) 44 i0 _ 7 64 Try.underlying22 HI0.out HZ0.out HZ1.out HZ2.out rfl (by omega) nv L.length (flatN L) rfl KA.out ⟨w3.heap.size, 0, none⟩ 1 1 e.cells.toList rfl (Nat.le_refl 1) rfl HNE.out (one_n1 _) P1.out P2.out P3.out ?_
                 intro v8 w8 ho hg hn
                 obtain ⟨g8, cap8, hv8⟩ := own_some ho
                 subst hv8
                 have G8 := Lib.hid (KG3.out.node KGA.out e ho hg hn)
                 have c8 : w8.cell? ⟨w.heap.size, 0, none⟩ = some nv := (HC8.out w8 hg).cell 0
                 have f8 : w8.frozen? ⟨w.heap.size, 0, none⟩ = false := (HC8.out w8 hg).frozen 0
                 have h8 := HX8.out w8 hg
                 have h9 := (h8.far (p := ⟨w.heap.size, 0, none⟩) (fun e2 => HTT.out e2.symm) (.slice (some ⟨g8, 0, none⟩) (L.length + 1) cap8))
                 have X8 := Lib.hid ((HX8.out w8 hg).far (p := ⟨w.heap.size, 0, none⟩) (fun e2 => HTT.out e2.symm) (.slice (some ⟨g8, 0, none⟩) (L.length + 1) cap8))
                 have B8 := Lib.hid ((HB8.out w8 hg).setCell (p := ⟨w.heap.size, 0, none⟩) (Nat.le_refl _) (.slice (some ⟨g8, 0, none⟩) (L.length + 1) cap8))
                 clear ho hg hn h8 h9))
          all_goals
            clear c8 f8 x0 x1 x2 x3 x4 x5 x6 y0 yA
            generalize w8.setCell ⟨w.heap.size, 0, none⟩ (.slice (some ⟨g8, 0, none⟩) (L.length + 1) cap8) = w9 at *
            have y1 : w9.cell? ⟨w.heap.size, 1, none⟩ = some kv := G8.out.tree.cell 1
            have KGB := Lib.hid (show Below w9.heap.size w9 (w9.alloc (.cells #[.slice none 0 0] 108)) from (Below.refl _ _).alloc (Nat.le_refl _) _)
            have KB9 := Lib.hid (G8.out.below KGB.out).kids
            have HNE9 := Lib.hid (show ∀ p u, [Value.slice none 0 0][p]? = some u → (w9.alloc (.cells #[.slice none 0 0] 108)).cell? ((⟨w9.heap.size, 0, none⟩ : Addr).add p) = some u from fun p u hu => by
              have h3 : (w9.alloc (.cells #[.slice none 0 0] 108)).cell? ⟨w9.heap.size, p, none⟩ = (#[Value.slice none 0 0])[p]? := (Blk.new w9 108 #[.slice none 0 0]).cell p
              rw [Addr.add_lit, Nat.zero_add, h3]
              simpa using hu)
            have H19 := Lib.hid (show ∀ u ∈ [Value.slice none 0 0], u.oneCell' = true from fun u hu => by simp at hu; subst hu; rfl)
            have P19 := Lib.hid (show k + 1 ≤ maxLen by unfold maxLen; omega)
            have P29 := Lib.hid (show (k + 1) * 24 ≤ 140737488355328 by omega)
            have P39 := Lib.hid (show w.heap.size + 1 ≤ (w9.alloc (.cells #[.slice none 0 0] 108)).heap.size by have := G8.out.tree.lt; have := KGB.out.size; omega)
            have HC10 := Lib.hid (show ∀ W, (w9.alloc (.cells #[.slice none 0 0] 108)).grownBy W kv.ownBlock → Blk W w.heap.size 85 #[.slice (some ⟨g8, 0, none⟩) (L.length + 1) cap8, kv] from fun W hg => (G8.out.below KGB.out).tree.grown hg (fun e2 => by have := (G8.out.kids.lt _ e2.symm).1; omega))
            have HX10 := Lib.hid (show ∀ W, (w9.alloc (.cells #[.slice none 0 0] 108)).grownBy W kv.ownBlock → Blk W wr.heap.size 44 #[.string e.nm, .int .i64 e.kind, .int .i64 e.ab, .int .i64 e.wt, .bool e.v6, .int .u64 e.hi, .int .u64 e.lo] from fun W hg => (show Blk (w9.alloc (.cells #[.slice none 0 0] 108)) wr.heap.size 44 #[.string e.nm, .int .i64 e.kind, .int .i64 e.ab, .int .i64 e.wt, .bool e.v6, .int .u64 e.hi, .int .u64 e.lo] from (KGB.out.block _ X8.out.lt).trans X8.out).grown hg (fun e2 => by have := (KG.out.kids.lt _ e2.symm).2; omega))
            have HB10 := Lib.hid (show ∀ W, (w9.alloc (.cells #[.slice none 0 0] 108)).grownBy W kv.ownBlock → Below w.heap.size w W from fun W hg => (B8.out.trans (KGB.out.mono B8.out.size)).grown hg (by have := P39.out; omega) (fun g e2 => by have := (G8.out.kids.lt _ e2).1; omega))
            cases hk1 : (e.kind == 1) with
            | true =>
              have HE1 := Lib.hid (show e.kind = 1 by simpa using hk1)
              have hk2 : (e.kind != 1) = false := by simp [bne, hk1]
              go_wp2_with (at_builtin; refine wpList_append_new _ rfl (.tmp 47) (.tmp 48) _ rfl (w.heap.size + 1) 108 i1 _ 1 24 Try.underlying83 HI1.out HY0.out HY1.out HY2.out rfl (by omega) kv k ks rfl KB9.out ⟨w9.heap.size, 0, none⟩ 1 1 [.slice none 0 0] rfl (Nat.le_refl 1) rfl HNE9.out H19.out P19.out P29.out P39.out ?_; intro v10 w10 ho hg hn; obtain ⟨g10, cap10, hv10⟩ := own_some ho; subst hv10; have G10 := Lib.hid (G8.out.kid HKN.out KGB.out ho hg hn); have c10 : w10.cell? ⟨w.heap.size, 1, none⟩ = some kv := (HC10.out w10 hg).cell 1; have f10 : w10.frozen? ⟨w.heap.size, 1, none⟩ = false := (HC10.out w10 hg).frozen 1; have X10 := Lib.hid ((HX10.out w10 hg).far (p := ⟨w.heap.size, 1, none⟩) (fun e2 => HTT.out e2.symm) (.slice (some ⟨g10, 0, none⟩) (k + 1) cap10)); have B10 := Lib.hid ((HB10.out w10 hg).setCell (p := ⟨w.heap.size, 1, none⟩) (Nat.le_refl _) (.slice (some ⟨g10, 0, none⟩) (k + 1) cap10)); have z1 : (w10.setCell ⟨w.heap.size, 1, none⟩ (.slice (some ⟨g10, 0, none⟩) (k + 1) cap10)).cell? ⟨wr.heap.size, 1, none⟩ = some (.int .i64 e.kind) := X10.out.cell 1; have HGB := Lib.hid (show ∀ g, Value.ownBlock (.slice (some ⟨g10, 0, none⟩) (k + 1) cap10) = some g → g ≠ wr.heap.size from fun g e2 e3 => (hn g e2).elim (fun h1 => absurd (KG.out.kids.lt g h1).2 (by omega)) (fun h1 => absurd X8.out.lt (by have := KGB.out.size; omega))); clear ho hg hn)
              go_roundw
              case rel => exact ⟨k + 1, _, _, _, by go_num, by omega, by rw [HTK.out, HKL.out HE1.out]; exact G10.out, HNX.out HZ.out, B10.out⟩
              case measure => simp [intOf]; omega
            | false =>
              have HE1 := Lib.hid (show e.kind ≠ 1 by simpa using hk1)
              have hk2 : (e.kind != 1) = true := by simp [bne, hk1]
              go_wp2_with (at_builtin; refine wpList_append_new _ rfl (.tmp 47) (.tmp 48) _ rfl (w.heap.size + 1) 108 i1 _ 1 24 Try.underlying83 HI1.out HY0.out HY1.out HY2.out rfl (by omega) kv k ks rfl KB9.out ⟨w9.heap.size, 0, none⟩ 1 1 [.slice none 0 0] rfl (Nat.le_refl 1) rfl HNE9.out H19.out P19.out P29.out P39.out ?_; intro v10 w10 ho hg hn; obtain ⟨g10, cap10, hv10⟩ := own_some ho; subst hv10; have G10 := Lib.hid (G8.out.kid HKN.out KGB.out ho hg hn); have c10 : w10.cell? ⟨w.heap.size, 1, none⟩ = some kv := (HC10.out w10 hg).cell 1; have f10 : w10.frozen? ⟨w.heap.size, 1, none⟩ = false := (HC10.out w10 hg).frozen 1; have X10 := Lib.hid ((HX10.out w10 hg).far (p := ⟨w.heap.size, 1, none⟩) (fun e2 => HTT.out e2.symm) (.slice (some ⟨g10, 0, none⟩) (k + 1) cap10)); have B10 := Lib.hid ((HB10.out w10 hg).setCell (p := ⟨w.heap.size, 1, none⟩) (Nat.le_refl _) (.slice (some ⟨g10, 0, none⟩) (k + 1) cap10)); have z1 : (w10.setCell ⟨w.heap.size, 1, none⟩ (.slice (some ⟨g10, 0, none⟩) (k + 1) cap10)).cell? ⟨wr.heap.size, 1, none⟩ = some (.int .i64 e.kind) := X10.out.cell 1; have HGB := Lib.hid (show ∀ g, Value.ownBlock (.slice (some ⟨g10, 0, none⟩) (k + 1) cap10) = some g → g ≠ wr.heap.size from fun g e2 e3 => (hn g e2).elim (fun h1 => absurd (KG.out.kids.lt g h1).2 (by omega)) (fun h1 => absurd X8.out.lt (by have := KGB.out.size; omega))); clear ho hg hn)
              clear c10 f10 z1 y1
              generalize w10.setCell ⟨w.heap.size, 1, none⟩ (.slice (some ⟨g10, 0, none⟩) (k + 1) cap10) = w11 at *
              obtain ⟨a, hab, haL⟩ := above_in HQ.out.symm (by simpa using hk1)
              have hak : a < k := by have := HLE.out; omega
              obtain ⟨u, hu⟩ : ∃ u, (ks ++ [Value.slice none 0 0])[a]? = some u := ⟨_, List.getElem?_eq_getElem (by have := G10.out.kids.1; omega)⟩
              have ou := G10.out.each a u hu
              have hli := kidsL_le l k a
              obtain ⟨li, hlq⟩ : ∃ li, li = kidsL l k a := ⟨_, rfl⟩
              rw [← hlq] at ou hli
              have HLQ := Lib.hid hlq
              clear hlq
              have HU := Lib.hid hu
              have HLI := Lib.hid hli
              have KGC := Lib.hid (show Below w11.heap.size w11 (w11.alloc (.cells #[.int .i64 k] 3)).drew from ((Below.refl _ _).alloc (Nat.le_refl _) _).drew)
              have KU := Lib.hid (show (w11.alloc (.cells #[.int .i64 k] 3)).drew.ownsRow (w.heap.size + 1) 3 1 u li.length (li.map (Value.int .i64)) from ou.below KGC.out)
              have HNE11 := Lib.hid (show ∀ p u, [Value.int .i64 k][p]? = some u → (w11.alloc (.cells #[.int .i64 k] 3)).drew.cell? ((⟨w11.heap.size, 0, none⟩ : Addr).add p) = some u from fun p u hu => by
                have h3 : (w11.alloc (.cells #[.int .i64 k] 3)).drew.cell? ⟨w11.heap.size, p, none⟩ = (#[Value.int .i64 k])[p]? := (Blk.new w11 3 #[.int .i64 k]).drew.cell p
                rw [Addr.add_lit, Nat.zero_add, h3]
                simpa using hu)
              have H111 := Lib.hid (show ∀ u ∈ [Value.int .i64 (k : Int)], u.oneCell' = true from fun u hu => by simp at hu; subst hu; rfl)
              have P111 := Lib.hid (show li.length + 1 ≤ maxLen by unfold maxLen; omega)
              have P211 := Lib.hid (show (li.length + 1) * 8 ≤ 140737488355328 by omega)
              have P311 := Lib.hid (show w.heap.size + 1 ≤ (w11.alloc (.cells #[.int .i64 k] 3)).drew.heap.size by have := G10.out.tree.lt; have := KGC.out.size; omega)
              have HG10 := Lib.hid (G10.out.kids.lt g10 rfl)
              have HGW := Lib.hid (show wr.heap.size ≠ g10 from fun e2 => HGB.out g10 rfl e2.symm)
              have HNU := Lib.hid (show u.ownBlock ≠ some g10 from fun e2 => (G10.out.nj a u g10 hu e2).2 rfl)
              have HOU := Lib.hid (show ∀ g, u.ownBlock = some g → w.heap.size + 1 ≤ g ∧ g < w11.heap.size from ou.lt)
              have HUB := Lib.hid (show u.ownBlock ≠ some wr.heap.size from fun e2 => by
                have hold : ks[a]? = some u := by
                  have h5 : a < ks.length := by have := KG.out.kids.1; omega
                  rw [List.getElem?_append_left h5] at hu
                  exact hu
                have oo := KG.out.each a u hold
                have := (oo.lt _ e2).2
                omega)
              have kc1 : (w11.alloc (.cells #[.int .i64 k] 3)).drew.cell? ⟨g10, a, none⟩ = some u := by
                have h5 := (G10.out.below KGC.out).kids.cellAt a (by omega)
                rw [h5]; exact hu
              have kc0 : w11.drew.cell? ⟨g10, a, none⟩ = some u := by
                have h5 := (G10.out.below (Below.refl _ _).drew).kids.cellAt a (by omega)
                rw [h5]; exact hu
              have yd0 : w11.drew.cell? ⟨w.heap.size, 1, none⟩ = some (.slice (some ⟨g10, 0, none⟩) (k + 1) cap10) := (G10.out.below (Below.refl _ _).drew).tree.cell 1
              have yd1 : (w11.alloc (.cells #[.int .i64 k] 3)).drew.cell? ⟨w.heap.size, 1, none⟩ = some (.slice (some ⟨g10, 0, none⟩) (k + 1) cap10) := (G10.out.below KGC.out).tree.cell 1
              have xb0 : w11.drew.cell? ⟨wr.heap.size, 2, none⟩ = some (.int .i64 (a : Int)) := hab ▸ X10.out.drew.cell 2
              have xb1 : (w11.alloc (.cells #[.int .i64 k] 3)).drew.cell? ⟨wr.heap.size, 2, none⟩ = some (.int .i64 (a : Int)) := hab ▸ (show Blk (w11.alloc (.cells #[.int .i64 k] 3)).drew wr.heap.size 44 #[.string e.nm, .int .i64 e.kind, .int .i64 e.ab, .int .i64 e.wt, .bool e.v6, .int .u64 e.hi, .int .u64 e.lo] from (KGC.out.block _ X10.out.lt).trans X10.out).cell 2
              have HC12 := Lib.hid (show ∀ W, (w11.alloc (.cells #[.int .i64 k] 3)).drew.grownBy W u.ownBlock → Blk W w.heap.size 85 #[.slice (some ⟨g8, 0, none⟩) (L.length + 1) cap8, .slice (some ⟨g10, 0, none⟩) (k + 1) cap10] from fun W hg => (G10.out.below KGC.out).tree.grown hg (fun e2 => by have := (HOU.out _ e2.symm).1; omega))
              have HX12 := Lib.hid (show ∀ W, (w11.alloc (.cells #[.int .i64 k] 3)).drew.grownBy W u.ownBlock → Blk W wr.heap.size 44 #[.string e.nm, .int .i64 e.kind, .int .i64 e.ab, .int .i64 e.wt, .bool e.v6, .int .u64 e.hi, .int .u64 e.lo] from fun W hg => (show Blk (w11.alloc (.cells #[.int .i64 k] 3)).drew wr.heap.size 44 #[.string e.nm, .int .i64 e.kind, .int .i64 e.ab, .int .i64 e.wt, .bool e.v6, .int .u64 e.hi, .int .u64 e.lo] from (KGC.out.block _ X10.out.lt).trans X10.out).grown hg (fun e2 => HUB.out e2.symm))
              have HAB := Lib.hid (show e.ab = (a : Int) from hab)
              have HK12 := Lib.hid (show ∀ W, (w11.alloc (.cells #[.int .i64 k] 3)).drew.grownBy W u.ownBlock → W.cell? ⟨g10, a, none⟩ = some u ∧ W.frozen? ⟨g10, a, none⟩ = false from fun W hg => by
                have h5 := (G10.out.below KGC.out).kids.kept hg (.inr (fun e2 => HNU.out e2.symm))
                exact ⟨by rw [h5.cellAt a (by omega)]; exact HU.out, h5.frozenAt a⟩)
              have HB12 := Lib.hid (show ∀ W, (w11.alloc (.cells #[.int .i64 k] 3)).drew.grownBy W u.ownBlock → Below w.heap.size w W from fun W hg => (B10.out.trans (KGC.out.mono B10.out.size)).grown hg (by have := P311.out; omega) (fun g e2 => by have := (HOU.out _ e2).1; omega))
              have a0 : (0 : Int) ≤ a := by omega
              have a1 : (a : Int) < (k : Int) + 1 := by omega
              have a2 : (a : Int) < ((k + 1 : Nat) : Int) := by omega
              clear hu hli ou hab haL
              have s0 : w11.drew.cell? ⟨w.heap.size, 1, none⟩ = some (.slice (some ⟨g10, 0, none⟩) (k + 1) cap10) ∧ w11.drew.cell? ⟨wr.heap.size, 2, none⟩ = some (.int .i64 (a : Int)) := ⟨yd0, xb0⟩
              have s1 : (w11.alloc (.cells #[.int .i64 k] 3)).drew.cell? ⟨w.heap.size, 1, none⟩ = some (.slice (some ⟨g10, 0, none⟩) (k + 1) cap10) ∧ (w11.alloc (.cells #[.int .i64 k] 3)).drew.cell? ⟨wr.heap.size, 2, none⟩ = some (.int .i64 (a : Int)) := ⟨yd1, xb1⟩
              clear yd0 yd1 xb0 xb1
              refine wp_let (fun Q hQ => ?_)
              have HQ := Lib.hid hQ
              clear hQ
              refine wp_region_noPanic ?_
              refine wp_region_held_drew (S := (fun w' => w'.cell? ⟨w.heap.size, 1, none⟩ = some (.slice (some ⟨g10, 0, none⟩) (k + 1) cap10) ∧ w'.cell? ⟨wr.heap.size, 2, none⟩ = some (.int .i64 (a : Int)))) (by kernel_rfl) s0 (fun hHeld => ?_)
              refine wpAnyH_take (i := 0) (v := ?_) (by simp only [List.getElem?_toArray, List.getElem?_cons_zero]; rfl) (by kernel_rfl) (by kernel_rfl) (by kernel_rfl) (fun _ _ _ h => h) (Or.inl ⟨by rfl, ?_⟩) hHeld ?_
              (rotate_left 1; (focus ((intro w hSw; (try dsimp only at hSw); go_simp) <;> with_reducible rfl)); all_goals skip)
              try simp only [Act.put, List.setIfInBounds_toArray, List.set_cons_zero, List.set_cons_succ]
              refine wpAnyH_take (i := 1) (v := ?_) (by simp only [List.getElem?_toArray, List.getElem?_cons_succ, List.getElem?_cons_zero]; rfl) (by kernel_rfl) (by kernel_rfl) (by kernel_rfl) (fun _ _ _ h => h) (Or.inl ⟨by rfl, ?_⟩) hHeld ?_
              (rotate_left 1; (focus ((intro w hSw; (try dsimp only at hSw); go_simp) <;> with_reducible rfl)); all_goals skip)
              try simp only [Act.put, List.setIfInBounds_toArray, List.set_cons_zero, List.set_cons_succ]
              refine wpAnyH_take (i := 2) (v := ?_) (by simp only [List.getElem?_toArray, List.getElem?_cons_succ, List.getElem?_cons_zero]; rfl) (by kernel_rfl) (by kernel_rfl) (by kernel_rfl) (fun _ _ _ h => h) (Or.inl ⟨by rfl, ?_⟩) hHeld ?_
              (rotate_left 1; (focus ((intro w hSw; (try dsimp only at hSw); go_simp) <;> with_reducible rfl)); all_goals skip)
              try simp only [Act.put, List.setIfInBounds_toArray, List.set_cons_zero, List.set_cons_succ]
              refine wpAnyH_take (i := 3) (v := ?_) (by simp only [List.getElem?_toArray, List.getElem?_cons_succ, List.getElem?_cons_zero]; rfl) (by kernel_rfl) (by kernel_rfl) (by kernel_rfl) (fun _ _ _ h => h) (Or.inl ⟨by rfl, ?_⟩) hHeld ?_
              (rotate_left 1; (focus ((intro w hSw; (try dsimp only at hSw); go_simp) <;> with_reducible rfl)); all_goals skip)
              try simp only [Act.put, List.setIfInBounds_toArray, List.set_cons_zero, List.set_cons_succ]
              refine wpAnyH_take (i := 4) (v := ?_) (by simp only [List.getElem?_toArray, List.getElem?_cons_succ, List.getElem?_cons_zero]; rfl) (by kernel_rfl) (by kernel_rfl) (by kernel_rfl) (fun _ _ _ h => h) (Or.inl ⟨by rfl, ?_⟩) hHeld ?_
              (rotate_left 1; (focus ((intro w hSw; (try dsimp only at hSw); go_simp) <;> with_reducible rfl)); all_goals skip)
              try simp only [Act.put, List.setIfInBounds_toArray, List.set_cons_zero, List.set_cons_succ]
              refine wpAnyH_take (i := 5) (v := ?_) (by simp only [List.getElem?_toArray, List.getElem?_cons_succ, List.getElem?_cons_zero]; rfl) (by kernel_rfl) (by kernel_rfl) (by kernel_rfl) (fun _ _ _ h => h) (Or.inl ⟨by rfl, ?_⟩) hHeld ?_
              (rotate_left 1; (focus ((intro w hSw; (try dsimp only at hSw); go_simp) <;> with_reducible rfl)); all_goals skip)
              try simp only [Act.put, List.setIfInBounds_toArray, List.set_cons_zero, List.set_cons_succ]
              refine wpAnyH_take (i := 6) (v := ?_) (by simp only [List.getElem?_toArray, List.getElem?_cons_succ, List.getElem?_cons_zero]; rfl) (by kernel_rfl) (by kernel_rfl) (by kernel_rfl) (fun _ _ _ h => h) (Or.inl ⟨by rfl, ?_⟩) hHeld ?_
              (rotate_left 1; (focus ((intro w hSw; (try dsimp only at hSw); go_simp) <;> with_reducible rfl)); all_goals skip)
              try simp only [Act.put, List.setIfInBounds_toArray, List.set_cons_zero, List.set_cons_succ]
              refine wpAnyH_take (i := 7) (v := ?_) (by simp only [List.getElem?_toArray, List.getElem?_cons_succ, List.getElem?_cons_zero]; rfl) (by kernel_rfl) (by kernel_rfl) (by kernel_rfl) (fun _ _ _ h => h) (Or.inl ⟨by rfl, ?_⟩) hHeld ?_
              (rotate_left 1; (focus ((intro w hSw; (try dsimp only at hSw); go_simp) <;> with_reducible rfl)); all_goals skip)
              try simp only [Act.put, List.setIfInBounds_toArray, List.set_cons_zero, List.set_cons_succ]
              refine wpAnyH_take (i := 8) (v := ?_) (by simp only [List.getElem?_toArray, List.getElem?_cons_succ, List.getElem?_cons_zero]; rfl) (by kernel_rfl) (by kernel_rfl) (by kernel_rfl) (fun _ _ _ h => h) (Or.inl ⟨by rfl, ?_⟩) hHeld ?_
              (rotate_left 1; (focus ((intro w hSw; (try dsimp only at hSw); go_simp) <;> with_reducible rfl)); all_goals skip)
              try simp only [Act.put, List.setIfInBounds_toArray, List.set_cons_zero, List.set_cons_succ]
              refine wpAnyH_take (i := 9) (v := ?_) (by simp only [List.getElem?_toArray, List.getElem?_cons_succ, List.getElem?_cons_zero]; rfl) (by kernel_rfl) (by kernel_rfl) (by kernel_rfl) (fun _ _ _ h => h) (Or.inl ⟨by rfl, ?_⟩) hHeld ?_
              (rotate_left 1; (focus ((intro w hSw; (try dsimp only at hSw); go_simp) <;> with_reducible rfl)); all_goals skip)
              try simp only [Act.put, List.setIfInBounds_toArray, List.set_cons_zero, List.set_cons_succ]
              refine wpAnyH_take (i := 10) (v := ?_) (by simp only [List.getElem?_toArray, List.getElem?_cons_succ, List.getElem?_cons_zero]; rfl) (by kernel_rfl) (by kernel_rfl) (by kernel_rfl) (fun _ _ _ h => h) (Or.inl ⟨by rfl, ?_⟩) hHeld ?_
              (rotate_left 1; (focus ((intro w hSw; (try dsimp only at hSw); go_simp) <;> with_reducible rfl)); all_goals skip)
              try simp only [Act.put, List.setIfInBounds_toArray, List.set_cons_zero, List.set_cons_succ]
              refine wpAnyH_take (i := 11) (v := ?_) (by simp only [List.getElem?_toArray, List.getElem?_cons_succ, List.getElem?_cons_zero]; rfl) (by kernel_rfl) (by kernel_rfl) (by kernel_rfl) (fun _ _ _ h => h) (Or.inl ⟨by rfl, ?_⟩) hHeld ?_
              (rotate_left 1; (focus ((intro w hSw; (try dsimp only at hSw); go_simp) <;> with_reducible rfl)); all_goals skip)
              try simp only [Act.put, List.setIfInBounds_toArray, List.set_cons_zero, List.set_cons_succ]
              refine wpAnyH_take (i := 12) (v := ?_) (by simp only [List.getElem?_toArray, List.getElem?_cons_succ, List.getElem?_cons_zero]; rfl) (by kernel_rfl) (by kernel_rfl) (by kernel_rfl) (fun _ _ _ h => h) (Or.inl ⟨by rfl, ?_⟩) hHeld ?_
              (rotate_left 1; (focus ((intro w hSw; (try dsimp only at hSw); go_simp) <;> with_reducible rfl)); all_goals skip)
              try simp only [Act.put, List.setIfInBounds_toArray, List.set_cons_zero, List.set_cons_succ]
              refine wpAnyH_take (i := 14) (v := ?_) (by simp only [List.getElem?_toArray, List.getElem?_cons_succ, List.getElem?_cons_zero]; rfl) (by kernel_rfl) (by kernel_rfl) (by kernel_rfl) (fun _ _ _ h => h) (Or.inl ⟨by rfl, ?_⟩) hHeld ?_
              (rotate_left 1; (focus ((intro w hSw; (try dsimp only at hSw); go_simp) <;> with_reducible rfl)); all_goals skip)
              try simp only [Act.put, List.setIfInBounds_toArray, List.set_cons_zero, List.set_cons_succ]
              refine wpAnyH_ready (rs := [13, 15]) (by kernel_rfl) (by simp) ?_
              refine AllReadyH.cons (by simp only [List.getElem?_toArray, List.getElem?_cons_succ, List.getElem?_cons_zero]; rfl) (fun K hK => ?_) ?_
              go_simp
              refine hK.out _ _ s0 (fun hHeld => ?_)
              clear hK K
              try simp only [Act.put, List.setIfInBounds_toArray, List.set_cons_zero, List.set_cons_succ]
              refine wpAnyH_ready (rs := [15]) (by kernel_rfl) (by simp) ?_
              refine AllReadyH.cons (by simp only [List.getElem?_toArray, List.getElem?_cons_succ, List.getElem?_cons_zero]; rfl) (fun K hK => ?_) ?_
              (rotate_left 1; (focus exact AllReadyH.nil); rotate_right 1)
              go_simp
              refine hK.out _ _ s1 (fun hHeld => ?_)
              clear hK K
              try simp only [Act.put, List.setIfInBounds_toArray, List.set_cons_zero, List.set_cons_succ]
              refine wpAnyH_ready (rs := [16]) (by kernel_rfl) (by simp) ?_
              refine AllReadyH.cons (by simp only [List.getElem?_toArray, List.getElem?_cons_succ, List.getElem?_cons_zero]; rfl) (fun K hK => ?_) ?_
              (rotate_left 1; (focus exact AllReadyH.nil); rotate_right 1)
              refine step_append_new rfl (.tmp 68) (.tmp 70) _ rfl (w.heap.size + 1) 3 i2 _ 1 8 Try.underlying108 HI2.out HX0.out HX1.out HX2.out rfl (by omega) u li.length (li.map (Value.int .i64)) rfl KU.out ⟨w11.heap.size, 0, none⟩ 1 1 [.int .i64 k] rfl (Nat.le_refl 1) rfl HNE11.out H111.out P111.out P211.out P311.out ?_
              intro v12 w12 ho hg hn
              obtain ⟨g12, cap12, hv12⟩ := own_some ho
              subst hv12
              have G12 := Lib.hid (G10.out.sub2 HLQ.out KGC.out HU.out ho hg hn)
              have c12 := (HK12.out w12 hg).1
              have f12 := (HK12.out w12 hg).2
              have m1 : w12.cell? ⟨w.heap.size, 1, none⟩ = some (.slice (some ⟨g10, 0, none⟩) (k + 1) cap10) := (HC12.out w12 hg).cell 1
              have m2 : w12.cell? ⟨wr.heap.size, 2, none⟩ = some (.int .i64 (a : Int)) := HAB.out ▸ (HX12.out w12 hg).cell 2
              have s2 : w12.cell? ⟨w.heap.size, 1, none⟩ = some (.slice (some ⟨g10, 0, none⟩) (k + 1) cap10) ∧ w12.cell? ⟨wr.heap.size, 2, none⟩ = some (.int .i64 (a : Int)) := ⟨m1, m2⟩
              have s3 : (w12.setCell ⟨g10, a, none⟩ (.slice (some ⟨g12, 0, none⟩) (li.length + 1) cap12)).cell? ⟨w.heap.size, 1, none⟩ = some (.slice (some ⟨g10, 0, none⟩) (k + 1) cap10) ∧ (w12.setCell ⟨g10, a, none⟩ (.slice (some ⟨g12, 0, none⟩) (li.length + 1) cap12)).cell? ⟨wr.heap.size, 2, none⟩ = some (.int .i64 (a : Int)) := ⟨G12.out.tree.cell 1, HAB.out ▸ ((HX12.out w12 hg).far (p := ⟨g10, a, none⟩) HGW.out (.slice (some ⟨g12, 0, none⟩) (li.length + 1) cap12)).cell 2⟩
              clear m1 m2
              have B12 := Lib.hid ((HB12.out w12 hg).setCell (p := ⟨g10, a, none⟩) (by have := HG10.out.1; show w.heap.size ≤ g10; omega) (.slice (some ⟨g12, 0, none⟩) (li.length + 1) cap12))
              clear ho hg hn
              refine hK.out _ _ s2 (fun hHeld => ?_)
              clear hK K
              try simp only [Act.put, List.setIfInBounds_toArray, List.set_cons_zero, List.set_cons_succ]
              (refine wpAnyH_take (i := 17) (v := ?_) (by simp only [List.getElem?_toArray, List.getElem?_cons_succ, List.getElem?_cons_zero]; rfl) (by kernel_rfl) (by kernel_rfl) (by kernel_rfl) (fun _ _ _ h => h) (Or.inl ⟨by rfl, ?_⟩) hHeld ?_; rotate_left 1; (focus ((intro w hSw; (try dsimp only at hSw); go_simp) <;> with_reducible rfl)); all_goals skip)
              try simp only [Act.put, List.setIfInBounds_toArray, List.set_cons_zero, List.set_cons_succ]
              refine wpAnyH_ready (rs := [18]) (by kernel_rfl) (by simp) ?_
              refine AllReadyH.cons (by simp only [List.getElem?_toArray, List.getElem?_cons_succ, List.getElem?_cons_zero]; rfl) (fun K hK => ?_) ?_
              (rotate_left 1; (focus exact AllReadyH.nil); rotate_right 1)
              go_simp
              refine hK.out _ _ s3 (fun hHeld => ?_)
              clear hK K
              try simp only [Act.put, List.setIfInBounds_toArray, List.set_cons_zero, List.set_cons_succ]
              refine wpAnyH_done (by kernel_rfl) (NoPanic.normal ?_) _
              rw [HQ.out]
              rotate_left
              refine AllReadyH.cons (by simp only [List.getElem?_toArray, List.getElem?_cons_succ, List.getElem?_cons_zero]; rfl) (fun K hK => ?_) ?_
              (rotate_left 1; (focus exact AllReadyH.nil); rotate_right 1)
              go_simp
              refine hK.out _ _ s1 (fun hHeld => ?_)
              clear hK K
              try simp only [Act.put, List.setIfInBounds_toArray, List.set_cons_zero, List.set_cons_succ]
              refine wpAnyH_ready (rs := [13]) (by kernel_rfl) (by simp) ?_
              refine AllReadyH.cons (by simp only [List.getElem?_toArray, List.getElem?_cons_succ, List.getElem?_cons_zero]; rfl) (fun K hK => ?_) ?_
              (rotate_left 1; (focus exact AllReadyH.nil); rotate_right 1)
              go_simp
              refine hK.out _ _ s1 (fun hHeld => ?_)
              clear hK K
              try simp only [Act.put, List.setIfInBounds_toArray, List.set_cons_zero, List.set_cons_succ]
              refine wpAnyH_ready (rs := [16]) (by kernel_rfl) (by simp) ?_
              refine AllReadyH.cons (by simp only [List.getElem?_toArray, List.getElem?_cons_succ, List.getElem?_cons_zero]; rfl) (fun K hK => ?_) ?_
              (rotate_left 1; (focus exact AllReadyH.nil); rotate_right 1)
              refine step_append_new rfl (.tmp 68) (.tmp 70) _ rfl (w.heap.size + 1) 3 i2 _ 1 8 Try.underlying108 HI2.out HX0.out HX1.out HX2.out rfl (by omega) u li.length (li.map (Value.int .i64)) rfl KU.out ⟨w11.heap.size, 0, none⟩ 1 1 [.int .i64 k] rfl (Nat.le_refl 1) rfl HNE11.out H111.out P111.out P211.out P311.out ?_
              intro v12 w12 ho hg hn
              obtain ⟨g12, cap12, hv12⟩ := own_some ho
              subst hv12
              have G12 := Lib.hid (G10.out.sub2 HLQ.out KGC.out HU.out ho hg hn)
              have c12 := (HK12.out w12 hg).1
              have f12 := (HK12.out w12 hg).2
              have m1 : w12.cell? ⟨w.heap.size, 1, none⟩ = some (.slice (some ⟨g10, 0, none⟩) (k + 1) cap10) := (HC12.out w12 hg).cell 1
              have m2 : w12.cell? ⟨wr.heap.size, 2, none⟩ = some (.int .i64 (a : Int)) := HAB.out ▸ (HX12.out w12 hg).cell 2
              have s2 : w12.cell? ⟨w.heap.size, 1, none⟩ = some (.slice (some ⟨g10, 0, none⟩) (k + 1) cap10) ∧ w12.cell? ⟨wr.heap.size, 2, none⟩ = some (.int .i64 (a : Int)) := ⟨m1, m2⟩
              have s3 : (w12.setCell ⟨g10, a, none⟩ (.slice (some ⟨g12, 0, none⟩) (li.length + 1) cap12)).cell? ⟨w.heap.size, 1, none⟩ = some (.slice (some ⟨g10, 0, none⟩) (k + 1) cap10) ∧ (w12.setCell ⟨g10, a, none⟩ (.slice (some ⟨g12, 0, none⟩) (li.length + 1) cap12)).cell? ⟨wr.heap.size, 2, none⟩ = some (.int .i64 (a : Int)) := ⟨G12.out.tree.cell 1, HAB.out ▸ ((HX12.out w12 hg).far (p := ⟨g10, a, none⟩) HGW.out (.slice (some ⟨g12, 0, none⟩) (li.length + 1) cap12)).cell 2⟩
              clear m1 m2
              have B12 := Lib.hid ((HB12.out w12 hg).setCell (p := ⟨g10, a, none⟩) (by have := HG10.out.1; show w.heap.size ≤ g10; omega) (.slice (some ⟨g12, 0, none⟩) (li.length + 1) cap12))
              clear ho hg hn
              refine hK.out _ _ s2 (fun hHeld => ?_)
              clear hK K
              try simp only [Act.put, List.setIfInBounds_toArray, List.set_cons_zero, List.set_cons_succ]
              (refine wpAnyH_take (i := 17) (v := ?_) (by simp only [List.getElem?_toArray, List.getElem?_cons_succ, List.getElem?_cons_zero]; rfl) (by kernel_rfl) (by kernel_rfl) (by kernel_rfl) (fun _ _ _ h => h) (Or.inl ⟨by rfl, ?_⟩) hHeld ?_; rotate_left 1; (focus ((intro w hSw; (try dsimp only at hSw); go_simp) <;> with_reducible rfl)); all_goals skip)
              try simp only [Act.put, List.setIfInBounds_toArray, List.set_cons_zero, List.set_cons_succ]
              refine wpAnyH_ready (rs := [18]) (by kernel_rfl) (by simp) ?_
              refine AllReadyH.cons (by simp only [List.getElem?_toArray, List.getElem?_cons_succ, List.getElem?_cons_zero]; rfl) (fun K hK => ?_) ?_
              (rotate_left 1; (focus exact AllReadyH.nil); rotate_right 1)
              go_simp
              refine hK.out _ _ s3 (fun hHeld => ?_)
              clear hK K
              try simp only [Act.put, List.setIfInBounds_toArray, List.set_cons_zero, List.set_cons_succ]
              refine wpAnyH_done (by kernel_rfl) (NoPanic.normal ?_) _
              rw [HQ.out]
              all_goals
                go_wp2_with fail
                go_roundw
                case rel => exact ⟨k + 1, _, _, _, by go_num, by omega, by rw [HTK.out, HKS.out a HE1.out HAB.out]; exact G12.out, HNX.out HZ.out, B12.out⟩
                case measure => simp [intOf]; omega
      · have hq1 : (q == 0) = false := beq_false_of_ne hq0
        have hq2 : (q != 0) = true := by simp [hq0]
        have HZ := Lib.hid (show whyF L e = q by unfold whyF; rw [← HQ.out, if_neg hq0])
        have HQ0 := Lib.hid hq0
        clear hq0
        go_wp2_with fail
        go_ret3
        refine ⟨?_, KB1.out.trans (B2.out.mono KB1.out.size)⟩
        have h8 := HBAD.out (by rw [HZ.out]; exact HQ0.out) w2
        rw [HZ.out] at h8
        exact h8
    · have t1 : decide ((k : Int) < ln) = false := decide_eq_false (by omega)
      obtain rfl : ln = k := by omega
      have HTL := Lib.hid (show l.take ln = l by rw [HLN.out]; exact List.take_length)
      go_wp2_with fail
      go_ret3
      refine ⟨.inr ⟨by have := KO.out; rw [HLN.out] at this; exact this, nv, kv, ks, rfl, ?_⟩, KB.out⟩
      have h9 := KG.out
      rw [HTL.out, HLN.out] at h9
      exact h9
end Go.Proofs.Ytamndmlaikgogaa.treI
