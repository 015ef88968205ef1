/- Layer 23: Counts. -/
import Derived.Test.YtlihgiannfpjfaaEliG
import Derived.Test.YtlihgiannfpjfaaShelf
import Derived.Deep.DeepCutAuto
namespace Go.Proofs.Ytlihgiannfpjfaa.eliH
open Go.ChangeShapes Go.WideShapes Go.ChangeAt Go.RowKit
open Go.Proofs.Ytlihgiannfpjfaa.base Go.Proofs.Ytlihgiannfpjfaa.dfA Go.Proofs.Ytlihgiannfpjfaa.treB Go.Proofs.Ytlihgiannfpjfaa.treD Go.Proofs.Ytlihgiannfpjfaa.treH Go.Proofs.Ytlihgiannfpjfaa.treM Go.Proofs.Ytlihgiannfpjfaa.treW Go.Proofs.Ytlihgiannfpjfaa.treP Go.Proofs.Ytlihgiannfpjfaa.eliW Go.Proofs.Ytlihgiannfpjfaa.eliA Go.Proofs.Ytlihgiannfpjfaa.eliB Go.Proofs.Ytlihgiannfpjfaa.eliC Go.Proofs.Ytlihgiannfpjfaa.eliG
set_option linter.unusedVariables false

/-- Cells that are the numbers W. -/
def AtI (n : Nat) (W : Nat → Nat) (cs : Array Value) : Prop := cs.size = n ∧ ∀ j, j < n → cs[j]? = some (.int .i64 (W j))
theorem AtI.put {n : Nat} {W W' : Nat → Nat} {cs : Array Value} (h : AtI n W cs) (k : Nat) (x : Nat) (e : ∀ j, j < n → W' j = if j = k then x else W j) : AtI n W' (cs.setIfInBounds k (.int .i64 (x : Int))) := by
  refine ⟨by rw [Array.size_setIfInBounds]; exact h.1, fun j hj => ?_⟩
  rw [e j hj]
  by_cases e2 : j = k
  · subst e2
    rw [if_pos rfl, Array.getElem?_setIfInBounds_self_of_lt (by rw [h.1]; exact hj)]
  · rw [if_neg e2, Array.getElem?_setIfInBounds_ne (fun he => e2 he.symm)]
    exact h.2 j hj
theorem AtI.congr {n : Nat} {W W' : Nat → Nat} {cs : Array Value} (h : AtI n W cs) (e : ∀ j, j < n → W j = W' j) : AtI n W' cs := ⟨h.1, fun j hj => by rw [← e j hj]; exact h.2 j hj⟩
theorem AtI.zeros (n : Nat) : AtI n (fun _ => 0) (zeros n (.int .i64 0)) := ⟨zeros_size _ _, fun j hj => by unfold base.zeros; simp [hj]⟩
/-- The level of a place. -/
def lvA (m : List Nd) (q : Nat) : Nat := ((ofK m 1 m.length).getD q 0).toNat
theorem lvA_of {m : List Nd} {q a : Nat} (h : (ofK m 1 m.length)[q]? = some (a : Int)) : lvA m q = a := by
  unfold lvA
  rw [List.getD_eq_getElem?_getD, h]
  simp
theorem lvA_in {m : List Nd} {q : Nat} (h : q < (ofK m 1 m.length).length) : (ofK m 1 m.length)[q]? = some (lvA m q : Int) ∧ lvA m q < m.length ∧ (ndAt m (lvA m q)).kind = 1 := by
  have h1 := List.getElem?_eq_getElem h
  obtain ⟨j, hj, hjm, hk⟩ := ofK_mem (List.getElem_mem h)
  rw [hj] at h1
  rw [lvA_of h1]
  refine ⟨h1, hjm, ?_⟩
  rw [ndAt_nat hjm]
  rw [List.getD_eq_getElem?_getD, List.getElem?_eq_getElem hjm] at hk
  exact hk
/-- Two rows that are counted in. -/
structure Cn (w2 : World) (n g1 g2 : Nat) (W1 W2 : Nat → Nat) (w : World) : Prop where
  one : ∃ cs, Blk w g1 3 cs ∧ AtI n W1 cs
  two : ∃ cs, Blk w g2 3 cs ∧ AtI n W2 cs
  bel : Below w2.heap.size w2 w
section
variable {w2 w w' : World} {n g1 g2 : Nat} {W1 W2 W1' W2' : Nat → Nat}
theorem Cn.below (h : Cn w2 n g1 g2 W1 W2 w) (hb : Below w.heap.size w w') : Cn w2 n g1 g2 W1 W2 w' := by
  obtain ⟨c1, a1, b1⟩ := h.one
  obtain ⟨c2, a2, b2⟩ := h.two
  exact ⟨⟨c1, a1.below hb a1.lt, b1⟩, ⟨c2, a2.below hb a2.lt, b2⟩, h.bel.trans (hb.mono h.bel.size)⟩
theorem Cn.put1 (h : Cn w2 n g1 g2 W1 W2 w) (hg : g1 ≠ g2) (h1 : w2.heap.size ≤ g1) (k x : Nat) (e : ∀ j, j < n → W1' j = if j = k then x else W1 j) : Cn w2 n g1 g2 W1' W2 (w.setCell ⟨g1, k, none⟩ (.int .i64 (x : Int))) := by
  obtain ⟨c1, a1, b1⟩ := h.one
  obtain ⟨c2, a2, b2⟩ := h.two
  exact ⟨⟨_, a1.set_ k _, b1.put k x e⟩, ⟨c2, a2.far (p := ⟨g1, k, none⟩) (fun e => hg e.symm) _, b2⟩, h.bel.setCell (p := ⟨g1, k, none⟩) h1 _⟩
theorem Cn.put2 (h : Cn w2 n g1 g2 W1 W2 w) (hg : g1 ≠ g2) (h1 : w2.heap.size ≤ g2) (k x : Nat) (e : ∀ j, j < n → W2' j = if j = k then x else W2 j) : Cn w2 n g1 g2 W1 W2' (w.setCell ⟨g2, k, none⟩ (.int .i64 (x : Int))) := by
  obtain ⟨c1, a1, b1⟩ := h.one
  obtain ⟨c2, a2, b2⟩ := h.two
  exact ⟨⟨c1, a1.far (p := ⟨g2, k, none⟩) hg _, b1⟩, ⟨_, a2.set_ k _, b2.put k x e⟩, h.bel.setCell (p := ⟨g2, k, none⟩) h1 _⟩
theorem Cn.congr1 (h : Cn w2 n g1 g2 W1 W2 w) (e : ∀ j, j < n → W1 j = W1' j) : Cn w2 n g1 g2 W1' W2 w := by
  obtain ⟨c1, a1, b1⟩ := h.one
  exact ⟨⟨c1, a1, b1.congr e⟩, h.two, h.bel⟩
theorem Cn.congr2 (h : Cn w2 n g1 g2 W1 W2 w) (e : ∀ j, j < n → W2 j = W2' j) : Cn w2 n g1 g2 W1 W2' w := by
  obtain ⟨c1, a1, b1⟩ := h.two
  exact ⟨h.one, ⟨c1, a1, b1.congr e⟩, h.bel⟩
theorem Cn.c1 (h : Cn w2 n g1 g2 W1 W2 w) {k : Nat} (hk : k < n) : w.cell? ⟨g1, k, none⟩ = some (.int .i64 (W1 k)) ∧ w.frozen? ⟨g1, k, none⟩ = false := by
  obtain ⟨c1, a1, b1⟩ := h.one
  exact ⟨(a1.cell k).trans (b1.2 k hk), a1.frozen k⟩
theorem Cn.c2 (h : Cn w2 n g1 g2 W1 W2 w) {k : Nat} (hk : k < n) : w.cell? ⟨g2, k, none⟩ = some (.int .i64 (W2 k)) ∧ w.frozen? ⟨g2, k, none⟩ = false := by
  obtain ⟨c1, a1, b1⟩ := h.two
  exact ⟨(a1.cell k).trans (b1.2 k hk), a1.frozen k⟩
end
theorem rdI_set {w : World} {A : Option Addr} {l : List Int} (h : RdI w A l) (p : Addr) (v : Value) (hp : ∀ ad : Addr, A = some ad → ad.block ≠ p.block) : RdI (w.setCell p v) A l := by
  rcases h with h0 | ⟨b, off, h1, h2, h3⟩
  · exact .inl h0
  · refine .inr ⟨b, off, h1, by rw [set_size]; exact h2, fun j x hx => ?_⟩
    rw [← h3 j x hx]
    unfold World.cell?
    rw [show (w.setCell p v).heap[b]? = w.heap[b]? from Below.heap_setCell w p v b (hp _ h1)]
/-- One host more. -/
theorem cnt_next {m : List Nd} {p : Nat → Bool} {l : List Int} {x q a : Nat} (hq : (ofK m 1 m.length)[q]? = some (a : Int)) (hu : upF m 1 (x : Int) = (a : Int)) (j : Nat) (hj : j < (ofK m 1 m.length).length) :
    cntL m p (lvA m j) (l ++ [(x : Int)]) = if j = q then (cntL m p (lvA m q) l + if p x = true then 1 else 0) else cntL m p (lvA m j) l := by
  rw [cntL_snoc, Int.toNat_natCast]
  obtain ⟨h1, h2, h3⟩ := lvA_in hj
  rw [bel_lev h3, hu]
  by_cases e : j = q
  · subst e
    rw [if_pos rfl]
    have : lvA m j = a := lvA_of hq
    rw [this]
    have hb : ((a : Int) == (a : Int)) = true := by simp
    rw [hb, Bool.true_and]
  · rw [if_neg e]
    have hb : ((a : Int) == ((lvA m j : Nat) : Int)) = false := beq_false_of_ne (fun h => e (lev_inj (by rw [h1, ← h]) hq))
    rw [hb, Bool.false_and, if_neg (by decide)]; rfl
set_option maxRecDepth 100000 in
set_option maxHeartbeats 32000000 in
theorem counts_any {w : World} {S T g : Nat} {m : List Nd} {W : Nat → Int} (h : SetOk w S T g m W) (hm60 : m.length ≤ 60) :
    Calls Try.prog 17 #[.pointer (some ⟨S, 0, none⟩)] w fun o w' => ∃ g1 g2, o = .returned (.tuple #[.slice (some ⟨g1, 0, none⟩) (ofK m 1 m.length).length (ofK m 1 m.length).length, .slice (some ⟨g2, 0, none⟩) (ofK m 1 m.length).length (ofK m 1 m.length).length]) ∧
      Cn w (ofK m 1 m.length).length g1 g2 (fun q => cntL m (fun x => wtOf m W x != 0) (lvA m q) (ofK m 4 m.length)) (fun q => cntL m (fun _ => true) (lvA m q) (ofK m 4 m.length)) w' := by
  obtain ⟨i0, hi0, hz0, hz1, hz2⟩ := info_parts info_i
  have HS := Lib.hid h
  have HE := Lib.hid (empty_x h)
  have HF := Lib.hid (fine_of h.tree.good)
  have d0 : w.cell? ⟨S, 0, none⟩ = some (.pointer (some ⟨T, 0, none⟩)) := h.set.cell 0
  obtain ⟨AT, cT, KT, kcT, ht⟩ := h.tree.at_
  have HLV := Lib.hid (levels_any ht (by omega))
  obtain ⟨nl, hnl⟩ : ∃ nl, nl = (ofK m 1 m.length).length := ⟨_, rfl⟩
  have HNL := Lib.hid hnl
  have hnl60 : nl ≤ 60 := by rw [hnl]; exact Nat.le_trans (ofK_len m 1 m.length) hm60
  have hmk := fun (W : World) => run_make_one (P := Try.prog) 23 3 i0 _ Try.underlying23 hi0 hz0 hz1 rfl .i64 .i64 (nl : Int) (by omega) (by rw [hz2]; omega) (by omega) W
  have hmk2 : ∀ W : World, (Instr.makeSlice 23 (.int .i64 (nl : Int)) (.int .i64 (nl : Int))).run Try.prog W = .ok (.slice (some ⟨W.heap.size, 0, none⟩) nl nl) (W.alloc (.cells (zeros nl (.int .i64 0)) 3)) := fun W => by
    have h1 := hmk W
    rw [Int.toNat_natCast] at h1
    exact h1
  rw [← hnl]
  clear h ht hnl hmk hi0 hz0 hz1 hz2
  go_enter Try.func17, Try.ntmps17
  go_wp2_with fail
  refine HE.out.mono ?_
  rintro o w1 ⟨rfl, rfl⟩
  go_wp2_with fail
  refine HLV.out.mono ?_
  rintro o w2 ⟨v, rfl, ho, hb⟩
  have B2 := Lib.hid hb
  have S2 := Lib.hid (HS.out.below hb)
  obtain ⟨AL, cL, rfl, hl1, hl2, hrl⟩ := read_own ho
  have HRL := Lib.hid hrl
  rw [← HNL.out] at hl1
  clear ho hb hrl d0
  rw [← HNL.out]
  go_upto_region 4 with fail
  go_cut [5, 6] (fun x5 x6 wx => ∃ g1 g2, x5 = .slice (some ⟨g1, 0, none⟩) nl nl ∧ x6 = .slice (some ⟨g2, 0, none⟩) nl nl ∧ g1 ≠ g2 ∧ w2.heap.size ≤ g1 ∧ w2.heap.size ≤ g2 ∧ Hid (Cn w2 nl g1 g2 (fun _ => 0) (fun _ => 0) wx))
  case first =>
    have HKK := Lib.hid (show ∀ a b : Nat, (a = w2.heap.size ∧ b = w2.heap.size + 1) ∨ (a = w2.heap.size + 1 ∧ b = w2.heap.size) → Cn w2 nl a b (fun _ => 0) (fun _ => 0) ((w2.alloc (.cells (zeros nl (.int .i64 0)) 3)).alloc (.cells (zeros nl (.int .i64 0)) 3)).drew from by
      have k1 : Blk ((w2.alloc (.cells (zeros nl (.int .i64 0)) 3)).alloc (.cells (zeros nl (.int .i64 0)) 3)).drew w2.heap.size 3 (zeros nl (.int .i64 0)) := ((Blk.new w2 _ _).alloc _).drew
      have k2 : Blk ((w2.alloc (.cells (zeros nl (.int .i64 0)) 3)).alloc (.cells (zeros nl (.int .i64 0)) 3)).drew (w2.heap.size + 1) 3 (zeros nl (.int .i64 0)) := by
        have := (Blk.new (w2.alloc (.cells (zeros nl (.int .i64 0)) 3)) 3 (zeros nl (.int .i64 0))).drew
        simpa using this
      have kb : Below w2.heap.size w2 ((w2.alloc (.cells (zeros nl (.int .i64 0)) 3)).alloc (.cells (zeros nl (.int .i64 0)) 3)).drew := (((Below.refl w2.heap.size w2).alloc (Nat.le_refl _) _).alloc (by simp) _).drew
      rintro a b (⟨rfl, rfl⟩ | ⟨rfl, rfl⟩)
      · exact ⟨⟨_, k1, AtI.zeros nl⟩, ⟨_, k2, AtI.zeros nl⟩, kb⟩
      · exact ⟨⟨_, k2, AtI.zeros nl⟩, ⟨_, k1, AtI.zeros nl⟩, kb⟩)
    go_wp2_with fail
    go_region
    all_goals go_wp2_with fail
    all_goals go_meet
    · exact ⟨_, _, rfl, rfl, by omega, by omega, by omega, Lib.hid (HKK.out _ _ (.inl ⟨rfl, rfl⟩))⟩
    · exact ⟨_, _, rfl, rfl, by omega, by omega, by omega, Lib.hid (HKK.out _ _ (.inr ⟨rfl, rfl⟩))⟩
  case rest =>
    obtain ⟨g1, g2, rfl, rfl, hg, hg1, hg2, HC⟩ := hcut
    have S3 := Lib.hid (S2.out.below HC.out.bel)
    have d1 : wc.cell? ⟨S, 0, none⟩ = some (.pointer (some ⟨T, 0, none⟩)) := S3.out.set.cell 0
    have HHO := Lib.hid (show Calls Try.prog 28 #[.pointer (some ⟨T, 0, none⟩)] wc fun o w' => ∃ v, o = .returned v ∧ OwnI w' wc.heap.size v (ofK m 4 m.length) ∧ Below wc.heap.size wc w' from by
      obtain ⟨A2, c2, K2, kc2, ht2⟩ := S3.out.tree.at_
      exact hosts_any ht2 (by omega))
    clear hmk2
    go_wp2_with fail
    refine HHO.out.mono ?_
    rintro o w4 ⟨v, rfl, ho, hb⟩
    have C4 := Lib.hid (HC.out.below hb)
    obtain ⟨AH, cH, rfl, hh1, hh2, hrh⟩ := read_own ho
    have HRH := Lib.hid hrh
    have HAB := Lib.hid (show ∀ ad : Addr, AH = some ad → ad.block ≠ g1 ∧ ad.block ≠ g2 from fun ad e => by
      subst e
      have h1 : wc.heap.size ≤ ad.block := by
        rcases ho.2 with ⟨h0, _⟩ | ⟨g, cap, cur, e1, e2, _⟩
        · cases h0
        · injection e1 with e1 _ _
          injection e1 with e1
          subst e1
          exact e2
      obtain ⟨_, a1, _⟩ := HC.out.one
      obtain ⟨_, a2, _⟩ := HC.out.two
      have := a1.lt
      have := a2.lt
      omega)
    obtain ⟨nh, hnh⟩ : ∃ nh, nh = (ofK m 4 m.length).length := ⟨_, rfl⟩
    have HNH := Lib.hid hnh
    have hnh60 : nh ≤ 60 := by rw [hnh]; exact Nat.le_trans (ofK_len m 4 m.length) hm60
    rw [← hnh] at hh1 ⊢
    have HCL := Lib.hid (show Cn w2 nl g1 g2 (fun q => cntL m (fun x => wtOf m W x != 0) (lvA m q) ((ofK m 4 m.length).take 0)) (fun q => cntL m (fun _ => true) (lvA m q) ((ofK m 4 m.length).take 0)) w4 from C4.out)
    clear ho hb hrh hnh d1
    go_wp2_with fail
    go_loopw [29] (fun iv wr => ∃ k : Nat, iv = .int .i64 k ∧ k ≤ nh ∧ Hid (Cn w2 nl g1 g2 (fun q => cntL m (fun x => wtOf m W x != 0) (lvA m q) ((ofK m 4 m.length).take k)) (fun q => cntL m (fun _ => true) (lvA m q) ((ofK m 4 m.length).take k)) wr) ∧ Hid (RdI wr AH (ofK m 4 m.length))) (fun iv _ => nh - (intOf iv).toNat)
    case atStart => exact ⟨0, rfl, by omega, HCL, HRH⟩
    case round =>
      obtain ⟨k, rfl, hk, KC, KH⟩ := hrel
      by_cases hkn : k < nh
      · have t1 : decide ((k : Int) < nh) = true := decide_eq_true (by omega)
        have hkl : k < (ofK m 4 m.length).length := HNH.out ▸ hkn
        obtain ⟨bH, oH, hA, _, cx⟩ := KH.out.at_ k hkl
        subst hA
        obtain ⟨xn, hxe, hxm, _⟩ := ofK_mem (List.getElem_mem hkl)
        have HTK := Lib.hid (show (ofK m 4 m.length).take (k + 1) = (ofK m 4 m.length).take k ++ [(xn : Int)] by rw [List.take_succ_eq_append_getElem hkl, hxe])
        rw [hxe] at cx
        obtain ⟨q, a, hq, ha, hqa, hua, hka, hix⟩ := lev_at HF.out hxm
        have HQA := Lib.hid hqa
        have HUA := Lib.hid hua
        have HS5 := Lib.hid (S2.out.below KC.out.bel)
        have HUP := Lib.hid (show Calls Try.prog 30 #[.pointer (some ⟨T, 0, none⟩), .int .i64 (xn : Int), .int .i64 1] wr fun o w' => o = .returned (.int .i64 (a : Int)) ∧ w' = wr from by
          obtain ⟨A2, c2, K2, kc2, ht2⟩ := HS5.out.tree.at_
          have h1 := up_x ht2 HF.out xn 1
          rwa [hua] at h1)
        rw [hua] at hix
        have hq' : q < nl := by rw [HNL.out]; exact hq
        obtain ⟨bL, oL, hAL, hbl9, hcl9⟩ := (HRL.out.below KC.out.bel).at_ q hq
        subst hAL
        have HIX := Lib.hid (show Calls Try.prog 29 #[.slice (some ⟨bL, oL, none⟩) nl cL, .int .i64 (a : Int)] wr fun o w' => o = .returned (.int .i64 (q : Int)) ∧ w' = wr from by
          have h1 := Go.Proofs.Try.slices_Index_int bL oL nl cL (ofK m 1 m.length) (a : Int) wr (by rw [HNL.out]; exact Nat.le_refl _) (by omega) (fun j hj => by
            obtain ⟨b', o', e1, _, e2⟩ := (HRL.out.below KC.out.bel).at_ j hj
            injection e1 with e1
            injection e1 with e3 e4
            subst e3 e4
            rw [e2, List.getD_eq_getElem?_getD, List.getElem?_eq_getElem hj]; rfl)
          rwa [List.take_of_length_le (by rw [HNL.out]; exact Nat.le_refl _), hix] at h1)
        have d1 : wr.cell? ⟨S, 0, none⟩ = some (.pointer (some ⟨T, 0, none⟩)) := HS5.out.set.cell 0
        obtain ⟨y2, hy2⟩ : ∃ y2, y2 = cntL m (fun _ => true) (lvA m q) ((ofK m 4 m.length).take k) := ⟨_, rfl⟩
        have HY2 := Lib.hid hy2
        have hy260 : y2 ≤ 60 := by
          have h1 := cntL_le m (fun _ => true) (lvA m q) ((ofK m 4 m.length).take k)
          rw [← hy2, List.length_take] at h1
          omega
        obtain ⟨y1, hy1⟩ : ∃ y1, y1 = cntL m (fun x => wtOf m W x != 0) (lvA m q) ((ofK m 4 m.length).take k) := ⟨_, rfl⟩
        have HY1 := Lib.hid hy1
        have hy160 : y1 ≤ 60 := by
          have h1 := cntL_le m (fun x => wtOf m W x != 0) (lvA m q) ((ofK m 4 m.length).take k)
          rw [← hy1, List.length_take] at h1
          omega
        have e2 : wr.cell? ⟨g2, q, none⟩ = some (.int .i64 (y2 : Int)) := by rw [(KC.out.c2 hq').1, hy2]
        have f2 : wr.frozen? ⟨g2, q, none⟩ = false := (KC.out.c2 hq').2
        have C5 := Lib.hid (show Cn w2 nl g1 g2 (fun q => cntL m (fun x => wtOf m W x != 0) (lvA m q) ((ofK m 4 m.length).take k)) (fun q => cntL m (fun _ => true) (lvA m q) ((ofK m 4 m.length).take (k + 1))) (wr.setCell ⟨g2, q, none⟩ (.int .i64 ((y2 : Int) + 1))) from KC.out.put2 hg hg2 q (y2 + 1) fun j hj => by
          try dsimp only
          rw [HTK.out, cnt_next hqa hua j (by rw [← HNL.out]; exact hj), if_pos rfl, hy2])
        have KH5 := Lib.hid (rdI_set KH.out ⟨g2, q, none⟩ (.int .i64 ((y2 : Int) + 1)) (fun ad e => (HAB.out ad e).2))
        have HH5 := Lib.hid (has_x (S2.out.below C5.out.bel) (xn : Int))
        have HN1 := Lib.hid (show ∀ j, j < nl → cntL m (fun x => wtOf m W x != 0) (lvA m j) ((ofK m 4 m.length).take (k + 1)) = if j = q then (y1 + if (wtOf m W xn != 0) = true then 1 else 0) else cntL m (fun x => wtOf m W x != 0) (lvA m j) ((ofK m 4 m.length).take k) from fun j hj => by
          rw [HTK.out, cnt_next hqa hua j (by rw [← HNL.out]; exact hj), hy1])
        obtain ⟨w5, hw5⟩ : ∃ w5, w5 = wr.setCell ⟨g2, q, none⟩ (.int .i64 ((y2 : Int) + 1)) := ⟨_, rfl⟩
        have HW5 := Lib.hid (show wr.setCell ⟨g2, q, none⟩ (.int .i64 ((y2 : Int) + 1)) = w5 from hw5.symm)
        rw [← hw5] at C5 KH5 HH5
        obtain ⟨z, hz⟩ : ∃ z, z = (wtOf m W xn != 0) := ⟨_, rfl⟩
        rw [← hz] at HH5 HN1
        have j0 : (0 : Int) ≤ k := by omega
        have j1 : (k : Int) < nh := by omega
        have j2 : (0 : Int) ≤ q := by omega
        have j3 : (q : Int) < nl := by omega
        clear hcl9 hbl9 hxe hq hqa hua hix hy2 hy1 hw5 hz hka
        go_wp2_with fail
        refine HUP.out.mono ?_
        rintro o w6 ⟨rfl, rfl⟩
        go_wp2_with fail
        refine HIX.out.mono ?_
        rintro o w6 ⟨rfl, rfl⟩
        go_wp2_with fail
        rw [HW5.out]
        refine HH5.out.mono ?_
        rintro o w7 ⟨rfl, qd, rfl⟩
        have C7 := Lib.hid (C5.out.below (below_n w5 qd))
        have KH7 := Lib.hid (KH5.out.below (below_n w5 qd))
        obtain ⟨w7, hw7⟩ : ∃ w7, w7 = w5.drewN qd := ⟨_, rfl⟩
        rw [← hw7] at C7 KH7 ⊢
        have e1 : w7.cell? ⟨g1, q, none⟩ = some (.int .i64 (y1 : Int)) := by rw [(C7.out.c1 hq').1, HY1.out]
        have f1 : w7.frozen? ⟨g1, q, none⟩ = false := (C7.out.c1 hq').2
        clear hw7 e2 f2 d1
        cases z with
        | true =>
          have C8 := Lib.hid (show Cn w2 nl g1 g2 (fun q => cntL m (fun x => wtOf m W x != 0) (lvA m q) ((ofK m 4 m.length).take (k + 1))) (fun q => cntL m (fun _ => true) (lvA m q) ((ofK m 4 m.length).take (k + 1))) (w7.setCell ⟨g1, q, none⟩ (.int .i64 ((y1 : Int) + 1))) from C7.out.put1 hg hg1 q (y1 + 1) fun j hj => by
            try dsimp only
            rw [HN1.out j hj, if_pos rfl])
          have KH8 := Lib.hid (rdI_set KH7.out ⟨g1, q, none⟩ (.int .i64 ((y1 : Int) + 1)) (fun ad e => (HAB.out ad e).1))
          go_wp2_with fail
          go_roundw
          case rel => exact ⟨k + 1, by go_num, by omega, C8, KH8⟩
          case measure => simp [intOf]; omega
        | false =>
          have C8 := Lib.hid (show Cn w2 nl g1 g2 (fun q => cntL m (fun x => wtOf m W x != 0) (lvA m q) ((ofK m 4 m.length).take (k + 1))) (fun q => cntL m (fun _ => true) (lvA m q) ((ofK m 4 m.length).take (k + 1))) w7 from C7.out.congr1 fun j hj => by
            try dsimp only
            rw [HN1.out j hj]
            by_cases e : j = q
            · rw [if_pos e, if_neg (by decide), Nat.add_zero, HY1.out, e]
            · rw [if_neg e])
          go_wp2_with fail
          go_roundw
          case rel => exact ⟨k + 1, by go_num, by omega, C8, KH7⟩
          case measure => simp [intOf]; omega
      · have t1 : decide ((k : Int) < nh) = false := decide_eq_false (by omega)
        obtain rfl : nh = k := by omega
        have KC2 := Lib.hid (show Cn w2 nl g1 g2 (fun q => cntL m (fun x => wtOf m W x != 0) (lvA m q) (ofK m 4 m.length)) (fun q => cntL m (fun _ => true) (lvA m q) (ofK m 4 m.length)) wr from by
          have h1 := KC.out
          rwa [List.take_of_length_le (by rw [HNH.out]; exact Nat.le_refl _)] at h1)
        go_wp2_with fail
        go_ret2
        exact ⟨g1, g2, rfl, KC2.out.one, KC2.out.two, B2.out.trans (KC2.out.bel.mono B2.out.size)⟩
end Go.Proofs.Ytlihgiannfpjfaa.eliH
