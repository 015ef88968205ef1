/- 5 texts in one. -/
import Derived.Deep.DeepCutAuto
import Derived.Test.YtoaboklckkcjcaaGreatPk01
import Derived.Test.YtoaboklckkcjcaaGreatPk12
import Derived.Test.YtoaboklckkcjcaaGreatPk14
/- Layer 23: Counts. -/
namespace Go.Proofs.YtoaboklckkcjcaaGreat.eliH
open Go.ChangeShapes Go.WideShapes Go.ChangeAt Go.RowKit
open Go.Proofs.YtoaboklckkcjcaaGreat.base Go.Proofs.YtoaboklckkcjcaaGreat.dfA Go.Proofs.YtoaboklckkcjcaaGreat.treB Go.Proofs.YtoaboklckkcjcaaGreat.treD Go.Proofs.YtoaboklckkcjcaaGreat.treH Go.Proofs.YtoaboklckkcjcaaGreat.treM Go.Proofs.YtoaboklckkcjcaaGreat.treW Go.Proofs.YtoaboklckkcjcaaGreat.treP Go.Proofs.YtoaboklckkcjcaaGreat.eliW Go.Proofs.YtoaboklckkcjcaaGreat.eliA Go.Proofs.YtoaboklckkcjcaaGreat.eliB Go.Proofs.YtoaboklckkcjcaaGreat.eliC Go.Proofs.YtoaboklckkcjcaaGreat.eliG
set_option linter.unusedVariables false

/-- Cells that are the numbers W. -/
def AtI (n : Nat) (W : Nat → Nat) (cs : Array Value) : Prop := cs.size = n ∧ ∀ j, j < n → cs[j]? = some (.int .i64 (W j))
theorem AtI.put {n : Nat} {W W' : Nat → Nat} {cs : Array Value} (h : AtI n W cs) (k : Nat) (x : Nat) (e : ∀ j, j < n → W' j = if j = k then x else W j) : AtI n W' (cs.setIfInBounds k (.int .i64 (x : Int))) := by
  refine ⟨by rw [Array.size_setIfInBounds]; exact h.1, fun j hj => ?_⟩
  rw [e j hj]
  by_cases e2 : j = k
  · subst e2
    rw [if_pos rfl, Array.getElem?_setIfInBounds_self_of_lt (by rw [h.1]; exact hj)]
  · rw [if_neg e2, Array.getElem?_setIfInBounds_ne (fun he => e2 he.symm)]
    exact h.2 j hj
theorem AtI.congr {n : Nat} {W W' : Nat → Nat} {cs : Array Value} (h : AtI n W cs) (e : ∀ j, j < n → W j = W' j) : AtI n W' cs := ⟨h.1, fun j hj => by rw [← e j hj]; exact h.2 j hj⟩
theorem AtI.zeros (n : Nat) : AtI n (fun _ => 0) (zeros n (.int .i64 0)) := ⟨zeros_size _ _, fun j hj => by unfold base.zeros; simp [hj]⟩
/-- The level of a place. -/
def lvA (m : List Nd) (q : Nat) : Nat := ((ofK m 1 m.length).getD q 0).toNat
theorem lvA_of {m : List Nd} {q a : Nat} (h : (ofK m 1 m.length)[q]? = some (a : Int)) : lvA m q = a := by
  unfold lvA
  rw [List.getD_eq_getElem?_getD, h]
  simp
theorem lvA_in {m : List Nd} {q : Nat} (h : q < (ofK m 1 m.length).length) : (ofK m 1 m.length)[q]? = some (lvA m q : Int) ∧ lvA m q < m.length ∧ (ndAt m (lvA m q)).kind = 1 := by
  have h1 := List.getElem?_eq_getElem h
  obtain ⟨j, hj, hjm, hk⟩ := ofK_mem (List.getElem_mem h)
  rw [hj] at h1
  rw [lvA_of h1]
  refine ⟨h1, hjm, ?_⟩
  rw [ndAt_nat hjm]
  rw [List.getD_eq_getElem?_getD, List.getElem?_eq_getElem hjm] at hk
  exact hk
/-- Two rows that are counted in. -/
structure Cn (w2 : World) (n g1 g2 : Nat) (W1 W2 : Nat → Nat) (w : World) : Prop where
  one : ∃ cs, Blk w g1 3 cs ∧ AtI n W1 cs
  two : ∃ cs, Blk w g2 3 cs ∧ AtI n W2 cs
  bel : Below w2.heap.size w2 w
section
variable {w2 w w' : World} {n g1 g2 : Nat} {W1 W2 W1' W2' : Nat → Nat}
theorem Cn.below (h : Cn w2 n g1 g2 W1 W2 w) (hb : Below w.heap.size w w') : Cn w2 n g1 g2 W1 W2 w' := by
  obtain ⟨c1, a1, b1⟩ := h.one
  obtain ⟨c2, a2, b2⟩ := h.two
  exact ⟨⟨c1, a1.below hb a1.lt, b1⟩, ⟨c2, a2.below hb a2.lt, b2⟩, h.bel.trans (hb.mono h.bel.size)⟩
theorem Cn.put1 (h : Cn w2 n g1 g2 W1 W2 w) (hg : g1 ≠ g2) (h1 : w2.heap.size ≤ g1) (k x : Nat) (e : ∀ j, j < n → W1' j = if j = k then x else W1 j) : Cn w2 n g1 g2 W1' W2 (w.setCell ⟨g1, k, none⟩ (.int .i64 (x : Int))) := by
  obtain ⟨c1, a1, b1⟩ := h.one
  obtain ⟨c2, a2, b2⟩ := h.two
  exact ⟨⟨_, a1.set_ k _, b1.put k x e⟩, ⟨c2, a2.far (p := ⟨g1, k, none⟩) (fun e => hg e.symm) _, b2⟩, h.bel.setCell (p := ⟨g1, k, none⟩) h1 _⟩
theorem Cn.put2 (h : Cn w2 n g1 g2 W1 W2 w) (hg : g1 ≠ g2) (h1 : w2.heap.size ≤ g2) (k x : Nat) (e : ∀ j, j < n → W2' j = if j = k then x else W2 j) : Cn w2 n g1 g2 W1 W2' (w.setCell ⟨g2, k, none⟩ (.int .i64 (x : Int))) := by
  obtain ⟨c1, a1, b1⟩ := h.one
  obtain ⟨c2, a2, b2⟩ := h.two
  exact ⟨⟨c1, a1.far (p := ⟨g2, k, none⟩) hg _, b1⟩, ⟨_, a2.set_ k _, b2.put k x e⟩, h.bel.setCell (p := ⟨g2, k, none⟩) h1 _⟩
theorem Cn.congr1 (h : Cn w2 n g1 g2 W1 W2 w) (e : ∀ j, j < n → W1 j = W1' j) : Cn w2 n g1 g2 W1' W2 w := by
  obtain ⟨c1, a1, b1⟩ := h.one
  exact ⟨⟨c1, a1, b1.congr e⟩, h.two, h.bel⟩
theorem Cn.congr2 (h : Cn w2 n g1 g2 W1 W2 w) (e : ∀ j, j < n → W2 j = W2' j) : Cn w2 n g1 g2 W1 W2' w := by
  obtain ⟨c1, a1, b1⟩ := h.two
  exact ⟨h.one, ⟨c1, a1, b1.congr e⟩, h.bel⟩
theorem Cn.c1 (h : Cn w2 n g1 g2 W1 W2 w) {k : Nat} (hk : k < n) : w.cell? ⟨g1, k, none⟩ = some (.int .i64 (W1 k)) ∧ w.frozen? ⟨g1, k, none⟩ = false := by
  obtain ⟨c1, a1, b1⟩ := h.one
  exact ⟨(a1.cell k).trans (b1.2 k hk), a1.frozen k⟩
theorem Cn.c2 (h : Cn w2 n g1 g2 W1 W2 w) {k : Nat} (hk : k < n) : w.cell? ⟨g2, k, none⟩ = some (.int .i64 (W2 k)) ∧ w.frozen? ⟨g2, k, none⟩ = false := by
  obtain ⟨c1, a1, b1⟩ := h.two
  exact ⟨(a1.cell k).trans (b1.2 k hk), a1.frozen k⟩
end
theorem rdI_set {w : World} {A : Option Addr} {l : List Int} (h : RdI w A l) (p : Addr) (v : Value) (hp : ∀ ad : Addr, A = some ad → ad.block ≠ p.block) : RdI (w.setCell p v) A l := by
  rcases h with h0 | ⟨b, off, h1, h2, h3⟩
  · exact .inl h0
  · refine .inr ⟨b, off, h1, by rw [set_size]; exact h2, fun j x hx => ?_⟩
    rw [← h3 j x hx]
    unfold World.cell?
    rw [show (w.setCell p v).heap[b]? = w.heap[b]? from Below.heap_setCell w p v b (hp _ h1)]
/-- One host more. -/
theorem cnt_next {m : List Nd} {p : Nat → Bool} {l : List Int} {x q a : Nat} (hq : (ofK m 1 m.length)[q]? = some (a : Int)) (hu : upF m 1 (x : Int) = (a : Int)) (j : Nat) (hj : j < (ofK m 1 m.length).length) :
    cntL m p (lvA m j) (l ++ [(x : Int)]) = if j = q then (cntL m p (lvA m q) l + if p x = true then 1 else 0) else cntL m p (lvA m j) l := by
  rw [cntL_snoc, Int.toNat_natCast]
  obtain ⟨h1, h2, h3⟩ := lvA_in hj
  rw [bel_lev h3, hu]
  by_cases e : j = q
  · subst e
    rw [if_pos rfl]
    have : lvA m j = a := lvA_of hq
    rw [this]
    have hb : ((a : Int) == (a : Int)) = true := by simp
    rw [hb, Bool.true_and]
  · rw [if_neg e]
    have hb : ((a : Int) == ((lvA m j : Nat) : Int)) = false := beq_false_of_ne (fun h => e (lev_inj (by rw [h1, ← h]) hq))
    rw [hb, Bool.false_and, if_neg (by decide)]; rfl
set_option maxRecDepth 100000 in
set_option maxHeartbeats 32000000 in
theorem counts_any {w : World} {S T g : Nat} {m : List Nd} {W : Nat → Int} (h : SetOk w S T g m W) (hm60 : m.length ≤ 60) :
    Calls Tryz.prog 52 #[.pointer (some ⟨S, 0, none⟩)] w fun o w' => ∃ g1 g2, o = .returned (.tuple #[.slice (some ⟨g1, 0, none⟩) (ofK m 1 m.length).length (ofK m 1 m.length).length, .slice (some ⟨g2, 0, none⟩) (ofK m 1 m.length).length (ofK m 1 m.length).length]) ∧
      Cn w (ofK m 1 m.length).length g1 g2 (fun q => cntL m (fun x => wtOf m W x != 0) (lvA m q) (ofK m 4 m.length)) (fun q => cntL m (fun _ => true) (lvA m q) (ofK m 4 m.length)) w' := by
  obtain ⟨i0, hi0, hz0, hz1, hz2⟩ := info_parts info_i
  have HS := Lib.hid h
  have HE := Lib.hid (empty_x h)
  have HF := Lib.hid (fine_of h.tree.good)
  have d0 : w.cell? ⟨S, 0, none⟩ = some (.pointer (some ⟨T, 0, none⟩)) := h.set.cell 0
  obtain ⟨AT, cT, KT, kcT, ht⟩ := h.tree.at_
  have HLV := Lib.hid (levels_any ht (by omega))
  obtain ⟨nl, hnl⟩ : ∃ nl, nl = (ofK m 1 m.length).length := ⟨_, rfl⟩
  have HNL := Lib.hid hnl
  have hnl60 : nl ≤ 60 := by rw [hnl]; exact Nat.le_trans (ofK_len m 1 m.length) hm60
  have hmk := fun (W : World) => run_make_one (P := Tryz.prog) 23 3 i0 _ Tryz.underlying23 hi0 hz0 hz1 rfl .i64 .i64 (nl : Int) (by omega) (by rw [hz2]; omega) (by omega) W
  have hmk2 : ∀ W : World, (Instr.makeSlice 23 (.int .i64 (nl : Int)) (.int .i64 (nl : Int))).run Tryz.prog W = .ok (.slice (some ⟨W.heap.size, 0, none⟩) nl nl) (W.alloc (.cells (zeros nl (.int .i64 0)) 3)) := fun W => by
    have h1 := hmk W
    rw [Int.toNat_natCast] at h1
    exact h1
  rw [← hnl]
  clear h ht hnl hmk hi0 hz0 hz1 hz2
  go_enter Tryz.func52, Tryz.ntmps52
  go_wp2_with fail
  refine HE.out.mono ?_
  rintro o w1 ⟨rfl, rfl⟩
  go_wp2_with fail
  refine HLV.out.mono ?_
  rintro o w2 ⟨v, rfl, ho, hb⟩
  have B2 := Lib.hid hb
  have S2 := Lib.hid (HS.out.below hb)
  obtain ⟨AL, cL, rfl, hl1, hl2, hrl⟩ := read_own ho
  have HRL := Lib.hid hrl
  rw [← HNL.out] at hl1
  clear ho hb hrl d0
  rw [← HNL.out]
  go_upto_region 4 with fail
  go_cut [5, 6] (fun x5 x6 wx => ∃ g1 g2, x5 = .slice (some ⟨g1, 0, none⟩) nl nl ∧ x6 = .slice (some ⟨g2, 0, none⟩) nl nl ∧ g1 ≠ g2 ∧ w2.heap.size ≤ g1 ∧ w2.heap.size ≤ g2 ∧ Hid (Cn w2 nl g1 g2 (fun _ => 0) (fun _ => 0) wx))
  case first =>
    have HKK := Lib.hid (show ∀ a b : Nat, (a = w2.heap.size ∧ b = w2.heap.size + 1) ∨ (a = w2.heap.size + 1 ∧ b = w2.heap.size) → Cn w2 nl a b (fun _ => 0) (fun _ => 0) ((w2.alloc (.cells (zeros nl (.int .i64 0)) 3)).alloc (.cells (zeros nl (.int .i64 0)) 3)).drew from by
      have k1 : Blk ((w2.alloc (.cells (zeros nl (.int .i64 0)) 3)).alloc (.cells (zeros nl (.int .i64 0)) 3)).drew w2.heap.size 3 (zeros nl (.int .i64 0)) := ((Blk.new w2 _ _).alloc _).drew
      have k2 : Blk ((w2.alloc (.cells (zeros nl (.int .i64 0)) 3)).alloc (.cells (zeros nl (.int .i64 0)) 3)).drew (w2.heap.size + 1) 3 (zeros nl (.int .i64 0)) := by
        have := (Blk.new (w2.alloc (.cells (zeros nl (.int .i64 0)) 3)) 3 (zeros nl (.int .i64 0))).drew
        simpa using this
      have kb : Below w2.heap.size w2 ((w2.alloc (.cells (zeros nl (.int .i64 0)) 3)).alloc (.cells (zeros nl (.int .i64 0)) 3)).drew := (((Below.refl w2.heap.size w2).alloc (Nat.le_refl _) _).alloc (by simp) _).drew
      rintro a b (⟨rfl, rfl⟩ | ⟨rfl, rfl⟩)
      · exact ⟨⟨_, k1, AtI.zeros nl⟩, ⟨_, k2, AtI.zeros nl⟩, kb⟩
      · exact ⟨⟨_, k2, AtI.zeros nl⟩, ⟨_, k1, AtI.zeros nl⟩, kb⟩)
    go_wp2_with fail
    go_region
    all_goals go_wp2_with fail
    all_goals go_meet
    · exact ⟨_, _, rfl, rfl, by omega, by omega, by omega, Lib.hid (HKK.out _ _ (.inl ⟨rfl, rfl⟩))⟩
    · exact ⟨_, _, rfl, rfl, by omega, by omega, by omega, Lib.hid (HKK.out _ _ (.inr ⟨rfl, rfl⟩))⟩
  case rest =>
    obtain ⟨g1, g2, rfl, rfl, hg, hg1, hg2, HC⟩ := hcut
    have S3 := Lib.hid (S2.out.below HC.out.bel)
    have d1 : wc.cell? ⟨S, 0, none⟩ = some (.pointer (some ⟨T, 0, none⟩)) := S3.out.set.cell 0
    have HHO := Lib.hid (show Calls Tryz.prog 80 #[.pointer (some ⟨T, 0, none⟩)] wc fun o w' => ∃ v, o = .returned v ∧ OwnI w' wc.heap.size v (ofK m 4 m.length) ∧ Below wc.heap.size wc w' from by
      obtain ⟨A2, c2, K2, kc2, ht2⟩ := S3.out.tree.at_
      exact hosts_any ht2 (by omega))
    clear hmk2
    go_wp2_with fail
    refine HHO.out.mono ?_
    rintro o w4 ⟨v, rfl, ho, hb⟩
    have C4 := Lib.hid (HC.out.below hb)
    obtain ⟨AH, cH, rfl, hh1, hh2, hrh⟩ := read_own ho
    have HRH := Lib.hid hrh
    have HAB := Lib.hid (show ∀ ad : Addr, AH = some ad → ad.block ≠ g1 ∧ ad.block ≠ g2 from fun ad e => by
      subst e
      have h1 : wc.heap.size ≤ ad.block := by
        rcases ho.2 with ⟨h0, _⟩ | ⟨g, cap, cur, e1, e2, _⟩
        · cases h0
        · injection e1 with e1 _ _
          injection e1 with e1
          subst e1
          exact e2
      obtain ⟨_, a1, _⟩ := HC.out.one
      obtain ⟨_, a2, _⟩ := HC.out.two
      have := a1.lt
      have := a2.lt
      omega)
    obtain ⟨nh, hnh⟩ : ∃ nh, nh = (ofK m 4 m.length).length := ⟨_, rfl⟩
    have HNH := Lib.hid hnh
    have hnh60 : nh ≤ 60 := by rw [hnh]; exact Nat.le_trans (ofK_len m 4 m.length) hm60
    rw [← hnh] at hh1 ⊢
    have HCL := Lib.hid (show Cn w2 nl g1 g2 (fun q => cntL m (fun x => wtOf m W x != 0) (lvA m q) ((ofK m 4 m.length).take 0)) (fun q => cntL m (fun _ => true) (lvA m q) ((ofK m 4 m.length).take 0)) w4 from C4.out)
    clear ho hb hrh hnh d1
    go_wp2_with fail
    go_loopw [29] (fun iv wr => ∃ k : Nat, iv = .int .i64 k ∧ k ≤ nh ∧ Hid (Cn w2 nl g1 g2 (fun q => cntL m (fun x => wtOf m W x != 0) (lvA m q) ((ofK m 4 m.length).take k)) (fun q => cntL m (fun _ => true) (lvA m q) ((ofK m 4 m.length).take k)) wr) ∧ Hid (RdI wr AH (ofK m 4 m.length))) (fun iv _ => nh - (intOf iv).toNat)
    case atStart => exact ⟨0, rfl, by omega, HCL, HRH⟩
    case round =>
      obtain ⟨k, rfl, hk, KC, KH⟩ := hrel
      by_cases hkn : k < nh
      · have t1 : decide ((k : Int) < nh) = true := decide_eq_true (by omega)
        have hkl : k < (ofK m 4 m.length).length := HNH.out ▸ hkn
        obtain ⟨bH, oH, hA, _, cx⟩ := KH.out.at_ k hkl
        subst hA
        obtain ⟨xn, hxe, hxm, _⟩ := ofK_mem (List.getElem_mem hkl)
        have HTK := Lib.hid (show (ofK m 4 m.length).take (k + 1) = (ofK m 4 m.length).take k ++ [(xn : Int)] by rw [List.take_succ_eq_append_getElem hkl, hxe])
        rw [hxe] at cx
        obtain ⟨q, a, hq, ha, hqa, hua, hka, hix⟩ := lev_at HF.out hxm
        have HQA := Lib.hid hqa
        have HUA := Lib.hid hua
        have HS5 := Lib.hid (S2.out.below KC.out.bel)
        have HUP := Lib.hid (show Calls Tryz.prog 31 #[.pointer (some ⟨T, 0, none⟩), .int .i64 (xn : Int), .int .i64 1] wr fun o w' => o = .returned (.int .i64 (a : Int)) ∧ w' = wr from by
          obtain ⟨A2, c2, K2, kc2, ht2⟩ := HS5.out.tree.at_
          have h1 := up_x ht2 HF.out xn 1
          rwa [hua] at h1)
        rw [hua] at hix
        have hq' : q < nl := by rw [HNL.out]; exact hq
        obtain ⟨bL, oL, hAL, hbl9, hcl9⟩ := (HRL.out.below KC.out.bel).at_ q hq
        subst hAL
        have HIX := Lib.hid (show Calls Tryz.prog 60 #[.slice (some ⟨bL, oL, none⟩) nl cL, .int .i64 (a : Int)] wr fun o w' => o = .returned (.int .i64 (q : Int)) ∧ w' = wr from by
          have h1 := Go.Proofs.Tryz.slices_Index_int bL oL nl cL (ofK m 1 m.length) (a : Int) wr (by rw [HNL.out]; exact Nat.le_refl _) (by omega) (fun j hj => by
            obtain ⟨b', o', e1, _, e2⟩ := (HRL.out.below KC.out.bel).at_ j hj
            injection e1 with e1
            injection e1 with e3 e4
            subst e3 e4
            rw [e2, List.getD_eq_getElem?_getD, List.getElem?_eq_getElem hj]; rfl)
          rwa [List.take_of_length_le (by rw [HNL.out]; exact Nat.le_refl _), hix] at h1)
        have d1 : wr.cell? ⟨S, 0, none⟩ = some (.pointer (some ⟨T, 0, none⟩)) := HS5.out.set.cell 0
        obtain ⟨y2, hy2⟩ : ∃ y2, y2 = cntL m (fun _ => true) (lvA m q) ((ofK m 4 m.length).take k) := ⟨_, rfl⟩
        have HY2 := Lib.hid hy2
        have hy260 : y2 ≤ 60 := by
          have h1 := cntL_le m (fun _ => true) (lvA m q) ((ofK m 4 m.length).take k)
          rw [← hy2, List.length_take] at h1
          omega
        obtain ⟨y1, hy1⟩ : ∃ y1, y1 = cntL m (fun x => wtOf m W x != 0) (lvA m q) ((ofK m 4 m.length).take k) := ⟨_, rfl⟩
        have HY1 := Lib.hid hy1
        have hy160 : y1 ≤ 60 := by
          have h1 := cntL_le m (fun x => wtOf m W x != 0) (lvA m q) ((ofK m 4 m.length).take k)
          rw [← hy1, List.length_take] at h1
          omega
        have e2 : wr.cell? ⟨g2, q, none⟩ = some (.int .i64 (y2 : Int)) := by rw [(KC.out.c2 hq').1, hy2]
        have f2 : wr.frozen? ⟨g2, q, none⟩ = false := (KC.out.c2 hq').2
        have C5 := Lib.hid (show Cn w2 nl g1 g2 (fun q => cntL m (fun x => wtOf m W x != 0) (lvA m q) ((ofK m 4 m.length).take k)) (fun q => cntL m (fun _ => true) (lvA m q) ((ofK m 4 m.length).take (k + 1))) (wr.setCell ⟨g2, q, none⟩ (.int .i64 ((y2 : Int) + 1))) from KC.out.put2 hg hg2 q (y2 + 1) fun j hj => by
          try dsimp only
          rw [HTK.out, cnt_next hqa hua j (by rw [← HNL.out]; exact hj), if_pos rfl, hy2])
        have KH5 := Lib.hid (rdI_set KH.out ⟨g2, q, none⟩ (.int .i64 ((y2 : Int) + 1)) (fun ad e => (HAB.out ad e).2))
        have HH5 := Lib.hid (has_x (S2.out.below C5.out.bel) (xn : Int))
        have HN1 := Lib.hid (show ∀ j, j < nl → cntL m (fun x => wtOf m W x != 0) (lvA m j) ((ofK m 4 m.length).take (k + 1)) = if j = q then (y1 + if (wtOf m W xn != 0) = true then 1 else 0) else cntL m (fun x => wtOf m W x != 0) (lvA m j) ((ofK m 4 m.length).take k) from fun j hj => by
          rw [HTK.out, cnt_next hqa hua j (by rw [← HNL.out]; exact hj), hy1])
        obtain ⟨w5, hw5⟩ : ∃ w5, w5 = wr.setCell ⟨g2, q, none⟩ (.int .i64 ((y2 : Int) + 1)) := ⟨_, rfl⟩
        have HW5 := Lib.hid (show wr.setCell ⟨g2, q, none⟩ (.int .i64 ((y2 : Int) + 1)) = w5 from hw5.symm)
        rw [← hw5] at C5 KH5 HH5
        obtain ⟨z, hz⟩ : ∃ z, z = (wtOf m W xn != 0) := ⟨_, rfl⟩
        rw [← hz] at HH5 HN1
        have j0 : (0 : Int) ≤ k := by omega
        have j1 : (k : Int) < nh := by omega
        have j2 : (0 : Int) ≤ q := by omega
        have j3 : (q : Int) < nl := by omega
        clear hcl9 hbl9 hxe hq hqa hua hix hy2 hy1 hw5 hz hka
        go_wp2_with fail
        refine HUP.out.mono ?_
        rintro o w6 ⟨rfl, rfl⟩
        go_wp2_with fail
        refine HIX.out.mono ?_
        rintro o w6 ⟨rfl, rfl⟩
        go_wp2_with fail
        rw [HW5.out]
        refine HH5.out.mono ?_
        rintro o w7 ⟨rfl, qd, rfl⟩
        have C7 := Lib.hid (C5.out.below (below_n w5 qd))
        have KH7 := Lib.hid (KH5.out.below (below_n w5 qd))
        obtain ⟨w7, hw7⟩ : ∃ w7, w7 = w5.drewN qd := ⟨_, rfl⟩
        rw [← hw7] at C7 KH7 ⊢
        have e1 : w7.cell? ⟨g1, q, none⟩ = some (.int .i64 (y1 : Int)) := by rw [(C7.out.c1 hq').1, HY1.out]
        have f1 : w7.frozen? ⟨g1, q, none⟩ = false := (C7.out.c1 hq').2
        clear hw7 e2 f2 d1
        cases z with
        | true =>
          have C8 := Lib.hid (show Cn w2 nl g1 g2 (fun q => cntL m (fun x => wtOf m W x != 0) (lvA m q) ((ofK m 4 m.length).take (k + 1))) (fun q => cntL m (fun _ => true) (lvA m q) ((ofK m 4 m.length).take (k + 1))) (w7.setCell ⟨g1, q, none⟩ (.int .i64 ((y1 : Int) + 1))) from C7.out.put1 hg hg1 q (y1 + 1) fun j hj => by
            try dsimp only
            rw [HN1.out j hj, if_pos rfl])
          have KH8 := Lib.hid (rdI_set KH7.out ⟨g1, q, none⟩ (.int .i64 ((y1 : Int) + 1)) (fun ad e => (HAB.out ad e).1))
          go_wp2_with fail
          go_roundw
          case rel => exact ⟨k + 1, by go_num, by omega, C8, KH8⟩
          case measure => simp [intOf]; omega
        | false =>
          have C8 := Lib.hid (show Cn w2 nl g1 g2 (fun q => cntL m (fun x => wtOf m W x != 0) (lvA m q) ((ofK m 4 m.length).take (k + 1))) (fun q => cntL m (fun _ => true) (lvA m q) ((ofK m 4 m.length).take (k + 1))) w7 from C7.out.congr1 fun j hj => by
            try dsimp only
            rw [HN1.out j hj]
            by_cases e : j = q
            · rw [if_pos e, if_neg (by decide), Nat.add_zero, HY1.out, e]
            · rw [if_neg e])
          go_wp2_with fail
          go_roundw
          case rel => exact ⟨k + 1, by go_num, by omega, C8, KH7⟩
          case measure => simp [intOf]; omega
      · have t1 : decide ((k : Int) < nh) = false := decide_eq_false (by omega)
        obtain rfl : nh = k := by omega
        have KC2 := Lib.hid (show Cn w2 nl g1 g2 (fun q => cntL m (fun x => wtOf m W x != 0) (lvA m q) (ofK m 4 m.length)) (fun q => cntL m (fun _ => true) (lvA m q) (ofK m 4 m.length)) wr from by
          have h1 := KC.out
          rwa [List.take_of_length_le (by rw [HNH.out]; exact Nat.le_refl _)] at h1)
        go_wp2_with fail
        go_ret2
        exact ⟨g1, g2, rfl, KC2.out.one, KC2.out.two, B2.out.trans (KC2.out.bel.mono B2.out.size)⟩
end Go.Proofs.YtoaboklckkcjcaaGreat.eliH
/- Layer 23: the law of EligCounts. -/
namespace Go.Proofs.YtoaboklckkcjcaaGreat.eliI
open Go.ChangeShapes Go.WideShapes Go.ChangeAt Go.RowKit
open Go.Proofs.YtoaboklckkcjcaaGreat.base Go.Proofs.YtoaboklckkcjcaaGreat.dfA Go.Proofs.YtoaboklckkcjcaaGreat.treA Go.Proofs.YtoaboklckkcjcaaGreat.treB Go.Proofs.YtoaboklckkcjcaaGreat.treC Go.Proofs.YtoaboklckkcjcaaGreat.treD Go.Proofs.YtoaboklckkcjcaaGreat.treE Go.Proofs.YtoaboklckkcjcaaGreat.treG Go.Proofs.YtoaboklckkcjcaaGreat.treH Go.Proofs.YtoaboklckkcjcaaGreat.treI Go.Proofs.YtoaboklckkcjcaaGreat.treM Go.Proofs.YtoaboklckkcjcaaGreat.treN Go.Proofs.YtoaboklckkcjcaaGreat.treW Go.Proofs.YtoaboklckkcjcaaGreat.treP Go.Proofs.YtoaboklckkcjcaaGreat.eliW Go.Proofs.YtoaboklckkcjcaaGreat.eliA Go.Proofs.YtoaboklckkcjcaaGreat.eliB Go.Proofs.YtoaboklckkcjcaaGreat.eliC Go.Proofs.YtoaboklckkcjcaaGreat.eliD Go.Proofs.YtoaboklckkcjcaaGreat.eliE Go.Proofs.YtoaboklckkcjcaaGreat.eliG Go.Proofs.YtoaboklckkcjcaaGreat.eliH
set_option linter.unusedVariables false

theorem ofK_pre (m : List Nd) (kind : Int) : ∀ n k, k ≤ n → n ≤ m.length → ∃ r, ofK m kind n = ofK m kind k ++ r := by
  intro n
  induction n with
  | zero => intro k hk _; have : k = 0 := by omega
            subst this; exact ⟨[], by simp⟩
  | succ n ih =>
    intro k hk hn
    by_cases e : k = n + 1
    · subst e; exact ⟨[], by simp⟩
    · obtain ⟨r, hr⟩ := ih k (by omega) (by omega)
      rw [ofK_next (show n < m.length by omega), hr, List.append_assoc]
      exact ⟨_, rfl⟩
theorem ofK_hit {m : List Nd} {kind : Int} {k : Nat} (hk : k < m.length) (h : ((ndAt m k).kind == kind) = true) : (ofK m kind k).length < (ofK m kind m.length).length ∧ (ofK m kind m.length)[(ofK m kind k).length]? = some (k : Int) := by
  obtain ⟨r, hr⟩ := ofK_pre m kind m.length (k + 1) (by omega) (Nat.le_refl _)
  rw [ndAt_nat hk] at h
  rw [hr, ofK_next hk, if_pos h]
  constructor
  · rw [List.length_append, List.length_append, List.length_singleton]; omega
  · rw [List.getElem?_append_left (by rw [List.length_append, List.length_singleton]; omega), List.getElem?_append_right (Nat.le_refl _), Nat.sub_self]; rfl
theorem cntB_congr {m : List Nd} {p p' : Nat → Bool} (a : Nat) : ∀ k, k ≤ m.length → (∀ j, j < m.length → (ndAt m j).kind = 4 → p j = p' j) → cntB m p a k = cntB m p' a k := by
  intro k
  induction k with
  | zero => intro _ _; rfl
  | succ k ih =>
    intro hk h
    unfold cntB
    rw [ih (by omega) h]
    cases h1 : ((ndAt m k).kind == 4) with
    | false => rfl
    | true => rw [h k (by omega) (by simpa using h1)]
end Go.Proofs.YtoaboklckkcjcaaGreat.eliI
/- Layer 26: how much each level gets. -/
namespace Go.Proofs.YtoaboklckkcjcaaGreat.walkG
open Go.ChangeShapes Go.WideShapes Go.ChangeAt Go.RowKit
open Go.Proofs.YtoaboklckkcjcaaGreat.base Go.Proofs.YtoaboklckkcjcaaGreat.dfA Go.Proofs.YtoaboklckkcjcaaGreat.treB Go.Proofs.YtoaboklckkcjcaaGreat.treD Go.Proofs.YtoaboklckkcjcaaGreat.treM Go.Proofs.YtoaboklckkcjcaaGreat.treW Go.Proofs.YtoaboklckkcjcaaGreat.eliW Go.Proofs.YtoaboklckkcjcaaGreat.eliA Go.Proofs.YtoaboklckkcjcaaGreat.eliB Go.Proofs.YtoaboklckkcjcaaGreat.eliG Go.Proofs.YtoaboklckkcjcaaGreat.eliH Go.Proofs.YtoaboklckkcjcaaGreat.onceBw Go.Proofs.YtoaboklckkcjcaaGreat.walkA Go.Proofs.YtoaboklckkcjcaaGreat.walkB Go.Proofs.YtoaboklckkcjcaaGreat.walkC
set_option linter.unusedVariables false

/-- A list, its first ones put behind the others. -/
def turnL (l : List Int) (f : Int) : List Int := if f < 0 ∨ (l.length : Int) ≤ f then l else l.drop f.toNat ++ l.take f.toNat
theorem turnL_len (l : List Int) (f : Int) : (turnL l f).length = l.length := by
  unfold turnL
  split
  · rfl
  · rw [List.length_append, List.length_drop, List.length_take]
    omega
theorem turn_any (g n : Nat) (l : List Int) (f : Int) (w : World) (hl : l.length = n) (hn : n ≤ 1000) (hr : Row w w.heap.size (some ⟨g, 0, none⟩) (l.map (.int .i64))) (hg : g < w.heap.size) :
    Calls Tryz.prog 54 #[.slice (some ⟨g, 0, none⟩) n n, .int .i64 f] w fun o w' => ∃ v, o = .returned v ∧ OwnI w' w.heap.size v (turnL l f) ∧ Below w.heap.size w w' := by
  have key : ∀ l2 : List Int, l2 = turnL l f → Calls Tryz.prog 54 #[.slice (some ⟨g, 0, none⟩) n n, .int .i64 f] w (loadH.ClonePost w n l2) → Calls Tryz.prog 54 #[.slice (some ⟨g, 0, none⟩) n n, .int .i64 f] w fun o w' => ∃ v, o = .returned v ∧ OwnI w' w.heap.size v (turnL l f) ∧ Below w.heap.size w w' := fun l2 e h => by
    refine h.mono ?_
    rintro o w' ⟨v, rfl, ho, hb, _⟩
    refine ⟨v, rfl, ?_, hb⟩
    unfold OwnI
    rw [← e]
    have : l2.length = n := by rw [e, turnL_len, hl]
    rwa [this]
  by_cases hf : f < 0 ∨ (l.length : Int) ≤ f
  · exact key l (by unfold turnL; rw [if_pos hf]) (loadH.turn_same _ n n l f w hl hn (by intro h; cases h) hr (by omega))
  · obtain ⟨q, rfl⟩ : ∃ q : Nat, f = (q : Int) := ⟨f.toNat, by omega⟩
    exact key (l.drop q ++ l.take q) (by unfold turnL; rw [if_neg hf, Int.toNat_natCast]) (loadJ.turn_far g 0 n n l q w hl hn (Nat.le_refl _) (by omega) hr hg (by omega))
/-- What each level gets. -/
noncomputable def sharesL (xs ys : List Int) (f : Int) : List Int := open Classical in if loadB.rightP xs ys f then (List.range xs.length).map (loadD.ofZ xs xs.length (loadC.capZ (loadC.sumF (loadC.heaZ xs ys f) xs.length)) (loadC.heaZ xs ys f)) else []
theorem of_any (v1 v2 : Value) (xs ys : List Int) (f : Int) (w : World) (B1 B2 : Nat) (h1 : OwnI w B1 v1 xs) (h2 : OwnI w B2 v2 ys) (hx : xs.length ≤ 1000) (hy : ys.length ≤ 1000) :
    Calls Tryz.prog 53 #[v1, v2, .int .i64 f] w fun o w' => ∃ v, o = .returned v ∧ OwnI w' w.heap.size v (sharesL xs ys f) ∧ Below w.heap.size w w' := by
  obtain ⟨A, c, rfl⟩ := own_slice h1
  obtain ⟨B, d, rfl⟩ := own_slice h2
  have r1 := own_row h1
  have r2 := own_row h2
  by_cases hp : loadB.rightP xs ys f
  · refine (loadD.of_yes A B xs.length c ys.length d xs ys f w rfl rfl r1 r2 hp).mono ?_
    rintro o w' ⟨g, rfl, hg, hb, hbel⟩
    have e : sharesL xs ys f = (List.range xs.length).map (loadD.ofZ xs xs.length (loadC.capZ (loadC.sumF (loadC.heaZ xs ys f) xs.length)) (loadC.heaZ xs ys f)) := by
      unfold sharesL
      rw [if_pos hp]
    refine ⟨_, rfl, ?_, hbel⟩
    rw [e]
    generalize loadD.ofZ xs xs.length (loadC.capZ (loadC.sumF (loadC.heaZ xs ys f) xs.length)) (loadC.heaZ xs ys f) = q at *
    have hle : ((List.range xs.length).map q).length = xs.length := by rw [List.length_map, List.length_range]
    refine ⟨by rw [List.length_map, Nat.mul_one], .inr ⟨g, xs.length, loadC.tab xs.length q, by rw [hle], hg, hb, by rw [hle]; exact Nat.le_refl _, by unfold maxLen; omega, by rw [loadC.tab_size, Nat.mul_one], ?_⟩⟩
    rw [hle, Nat.mul_one]
    unfold loadC.tab
    simp only [List.map_map]
    rw [List.take_of_length_le (by simp)]
    rfl
  · have e : sharesL xs ys f = [] := by
      unfold sharesL
      rw [if_neg hp]
    have HR := Lib.hid (loadM.right_no A B xs.length c ys.length d xs ys f w rfl rfl r1 r2 (by omega) (by omega) hp)
    have HE := Lib.hid e
    obtain ⟨n1, hn1⟩ : ∃ n, n = xs.length := ⟨_, rfl⟩
    obtain ⟨n2, hn2⟩ : ∃ n, n = ys.length := ⟨_, rfl⟩
    rw [← hn1, ← hn2] at HR ⊢
    clear h1 h2 r1 r2 hp e hn1 hn2 hx hy
    go_enter Tryz.func53, Tryz.ntmps53
    go_wp2_with fail
    refine HR.out.mono ?_
    rintro o w1 ⟨rfl, hb⟩
    have HB := Lib.hid hb
    clear hb
    go_wp2_with fail
    go_ret
    exact ⟨_, rfl, by rw [HE.out]; exact ownI_nil _ _, HB.out⟩
/-- How many hosts of each level may be picked, and how many there are. -/
def haveL (m : List Nd) (W : Nat → Int) : List Int := (List.range (ofK m 1 m.length).length).map fun q => ((cntL m (fun x => wtOf m W x != 0) (lvA m q) (ofK m 4 m.length) : Nat) : Int)
def allL (m : List Nd) : List Int := (List.range (ofK m 1 m.length).length).map fun q => ((cntL m (fun _ => true) (lvA m q) (ofK m 4 m.length) : Nat) : Int)
noncomputable def loadsW (m : List Nd) (W : Nat → Int) (fac f : Int) : List Int := sharesL (turnL (haveL m W) f) (turnL (allL m) f) fac
theorem row_cs {w : World} {g n : Nat} {W : Nat → Nat} {cs : Array Value} (h : Blk w g 3 cs) (hc : eliH.AtI n W cs) : Row w w.heap.size (some ⟨g, 0, none⟩) (((List.range n).map fun q => ((W q : Nat) : Int)).map (.int .i64)) := .inr ⟨g, 0, rfl, h.lt, fun i u hu => by
  have hi : i < n := by
    have := (List.getElem?_eq_some_iff.mp hu).1
    simpa using this
  rw [Nat.zero_add, h.cell i, hc.2 i hi, ← hu, List.getElem?_map, List.getElem?_map, List.getElem?_range hi]
  rfl⟩
end Go.Proofs.YtoaboklckkcjcaaGreat.walkG
/- Layer 26: the loads of a walker, and its level. -/
namespace Go.Proofs.YtoaboklckkcjcaaGreat.walkH
open Go.ChangeShapes Go.WideShapes Go.ChangeAt Go.RowKit
open Go.Proofs.YtoaboklckkcjcaaGreat.base Go.Proofs.YtoaboklckkcjcaaGreat.dfA Go.Proofs.YtoaboklckkcjcaaGreat.treB Go.Proofs.YtoaboklckkcjcaaGreat.treD Go.Proofs.YtoaboklckkcjcaaGreat.treM Go.Proofs.YtoaboklckkcjcaaGreat.treW Go.Proofs.YtoaboklckkcjcaaGreat.eliW Go.Proofs.YtoaboklckkcjcaaGreat.eliA Go.Proofs.YtoaboklckkcjcaaGreat.eliB Go.Proofs.YtoaboklckkcjcaaGreat.eliG Go.Proofs.YtoaboklckkcjcaaGreat.eliH Go.Proofs.YtoaboklckkcjcaaGreat.onceBw Go.Proofs.YtoaboklckkcjcaaGreat.wideF Go.Proofs.YtoaboklckkcjcaaGreat.walkA Go.Proofs.YtoaboklckkcjcaaGreat.walkB Go.Proofs.YtoaboklckkcjcaaGreat.walkC Go.Proofs.YtoaboklckkcjcaaGreat.walkG
set_option linter.unusedVariables false

theorem keep1 {W w w' : World} {p1 : Addr} {v1 : Value} (h : Below W.heap.size W w ∧ w.cell? p1 = some v1) (hb : Below w.heap.size w w') : Below W.heap.size W w' ∧ w'.cell? p1 = some v1 := by
  have := keep4 (p2 := p1) (p3 := p1) (p4 := p1) (v2 := v1) (v3 := v1) (v4 := v1) ⟨h.1, h.2, h.2, h.2, h.2⟩ hb
  exact ⟨this.1, this.2.1⟩
set_option maxHeartbeats 8000000 in
set_option maxRecDepth 100000 in
theorem loads_any {z w : World} {g S T q0 : Nat} {fac seed : Int} {m : List Nd} {W : Nat → Int} (hs : SetOk z S T q0 m W) (h : WSt z g fac seed w) (hm : m.length ≤ 60) (f : Int) :
    Calls Tryz.prog 19 #[.pointer (some ⟨g, 0, none⟩), .pointer (some ⟨S, 0, none⟩), .int .i64 f] w fun o w' => ∃ v, o = .returned v ∧ OwnI w' w.heap.size v (loadsW m W fac f) ∧ Below w.heap.size w w' := by
  have HC := Lib.hid (counts_any (hs.below h.bel) hm)
  have HW := Lib.hid h
  have HLD := Lib.hid (show loadsW m W fac f = sharesL (turnL (haveL m W) f) (turnL (allL m) f) fac from rfl)
  have HH := Lib.hid (show haveL m W = (List.range (ofK m 1 m.length).length).map fun q => ((cntL m (fun x => wtOf m W x != 0) (lvA m q) (ofK m 4 m.length) : Nat) : Int) from rfl)
  have HA := Lib.hid (show allL m = (List.range (ofK m 1 m.length).length).map fun q => ((cntL m (fun _ => true) (lvA m q) (ofK m 4 m.length) : Nat) : Int) from rfl)
  have hol := ofK_len m 1 m.length
  obtain ⟨n, hn⟩ : ∃ n, n = (ofK m 1 m.length).length := ⟨_, rfl⟩
  rw [← hn] at HC HH HA hol
  obtain ⟨l1, hl1⟩ : ∃ l, l = haveL m W := ⟨_, rfl⟩
  obtain ⟨l2, hl2⟩ : ∃ l, l = allL m := ⟨_, rfl⟩
  rw [← hl1] at HH HLD
  rw [← hl2] at HA HLD
  have e1 : l1.length = n := by rw [HH.out, List.length_map, List.length_range]
  have e2 : l2.length = n := by rw [HA.out, List.length_map, List.length_range]
  have hn1 : n ≤ 1000 := by omega
  obtain ⟨res, hres⟩ : ∃ res, res = loadsW m W fac f := ⟨_, rfl⟩
  rw [← hres] at HLD ⊢
  have E1 := Lib.hid e1
  have E2 := Lib.hid e2
  have H1000 := Lib.hid hn1
  clear hs h hn hl1 hl2 hres hol e1 e2 hn1
  go_enter Tryz.func19, Tryz.ntmps19
  go_wp2_with fail
  refine HC.out.mono ?_
  rintro o w1 ⟨g1, g2, rfl, ⟨c1, b1, a1⟩, ⟨c2, b2, a2⟩, hb⟩
  have HB := Lib.hid hb
  have R1 := Lib.hid (show Row w1 w1.heap.size (some ⟨g1, 0, none⟩) (l1.map (.int .i64)) from HH.out ▸ row_cs b1 a1)
  have R2 := Lib.hid (show Row w1 w1.heap.size (some ⟨g2, 0, none⟩) (l2.map (.int .i64)) from HA.out ▸ row_cs b2 a2)
  have k0 : Below w1.heap.size w1 w1.drew ∧ w1.drew.cell? ⟨g, 4, none⟩ = some (.int .i64 fac) := ⟨(Below.refl _ _).drew, (HW.out.below hb).c4⟩
  have G1 := b1.lt
  have G2 := b2.lt
  have HT1 := Lib.hid (show ∀ V, (Below w1.heap.size w1 V ∧ V.cell? ⟨g, 4, none⟩ = some (.int .i64 fac)) → Calls Tryz.prog 54 #[.slice (some ⟨g1, 0, none⟩) n n, .int .i64 f] V fun o w' => ∃ v, o = .returned v ∧ OwnI w' V.heap.size v (turnL l1 f) ∧ Below V.heap.size V w' from fun V hV => turn_any g1 n l1 f V E1.out H1000.out ((R1.out.below hV.1).more hV.1.size) (Nat.lt_of_lt_of_le G1 hV.1.size))
  have HT2 := Lib.hid (show ∀ V, (Below w1.heap.size w1 V ∧ V.cell? ⟨g, 4, none⟩ = some (.int .i64 fac)) → Calls Tryz.prog 54 #[.slice (some ⟨g2, 0, none⟩) n n, .int .i64 f] V fun o w' => ∃ v, o = .returned v ∧ OwnI w' V.heap.size v (turnL l2 f) ∧ Below V.heap.size V w' from fun V hV => turn_any g2 n l2 f V E2.out H1000.out ((R2.out.below hV.1).more hV.1.size) (Nat.lt_of_lt_of_le G2 hV.1.size))
  have HOF := Lib.hid (show ∀ V v1 v2 B1 B2, (Below w1.heap.size w1 V ∧ V.cell? ⟨g, 4, none⟩ = some (.int .i64 fac)) → OwnI V B1 v1 (turnL l1 f) → OwnI V B2 v2 (turnL l2 f) → Calls Tryz.prog 53 #[v1, v2, .int .i64 fac] V fun o w' => ∃ v, o = .returned v ∧ OwnI w' w1.heap.size v res ∧ Below V.heap.size V w' from fun V v1 v2 B1 B2 hV h1 h2 => by
    rw [HLD.out]
    refine (of_any v1 v2 _ _ fac V B1 B2 h1 h2 (by rw [turnL_len, E1.out]; exact H1000.out) (by rw [turnL_len, E2.out]; exact H1000.out)).mono ?_
    rintro o w' ⟨v, e, ho, hb⟩
    exact ⟨v, e, ownI_up ho hV.1.size, hb⟩)
  clear b1 a1 b2 a2 hb G1 G2
  go_wp2_with fail
  go_region_held3 (fun w' => Below w1.heap.size w1 w' ∧ w'.cell? ⟨g, 4, none⟩ = some (.int .i64 fac))
    (first | exact k0 | (refine keep1 ?_ hb; assumption))
    (first
      | (go_at_call 54
         first
           | ((with_reducible refine (HT1.out _ (by assumption)).mono ?_); rintro e w' ⟨v1, rfl, ho, hb⟩; have HO1 := Lib.hid ho; try (have HO2' := Lib.hid (HO2.out.below hb)))
           | ((with_reducible refine (HT2.out _ (by assumption)).mono ?_); rintro e w' ⟨v2, rfl, ho, hb⟩; have HO2 := Lib.hid ho; try (have HO1' := Lib.hid (HO1.out.below hb))))
      | (go_at_call 53
         first
           | ((with_reducible refine (HOF.out _ _ _ _ _ (by assumption) HO1'.out HO2.out).mono ?_); rintro e w' ⟨v3, rfl, ho3, hb⟩; have HO3 := Lib.hid ho3)
           | ((with_reducible refine (HOF.out _ _ _ _ _ (by assumption) HO1.out HO2'.out).mono ?_); rintro e w' ⟨v3, rfl, ho3, hb⟩; have HO3 := Lib.hid ho3)))
  all_goals
    rename_i hH
    have HB3 := Lib.hid (HB.out.trans (hH.1.mono HB.out.size))
    have HO4 := Lib.hid (ownI_up HO3.out HB.out.size)
    clear hH k0
    go_wp2_with fail
    go_ret
    exact ⟨_, rfl, HO4.out, HB3.out⟩
end Go.Proofs.YtoaboklckkcjcaaGreat.walkH
/- Layer 26: where ways part; the example. -/
namespace Go.Proofs.YtoaboklckkcjcaaGreat.walkD
open Go.ChangeShapes Go.WideShapes Go.ChangeAt Go.RowKit
open Go.Proofs.YtoaboklckkcjcaaGreat.base Go.Proofs.YtoaboklckkcjcaaGreat.dfA Go.Proofs.YtoaboklckkcjcaaGreat.treB Go.Proofs.YtoaboklckkcjcaaGreat.treD Go.Proofs.YtoaboklckkcjcaaGreat.treG Go.Proofs.YtoaboklckkcjcaaGreat.treH Go.Proofs.YtoaboklckkcjcaaGreat.treM Go.Proofs.YtoaboklckkcjcaaGreat.treW Go.Proofs.YtoaboklckkcjcaaGreat.walkA Go.Proofs.YtoaboklckkcjcaaGreat.walkB
set_option linter.unusedVariables false

/-- Two lists have their first n in common, and no more. -/
structure IsSpl (a b : List Int) (n : Nat) : Prop where
  la : n ≤ a.length
  lb : n ≤ b.length
  eq : ∀ i (ha : i < a.length) (hb : i < b.length), i < n → a[i] = b[i]
  ne : ∀ (ha : n < a.length) (hb : n < b.length), a[n] ≠ b[n]
set_option maxHeartbeats 4000000 in
set_option maxRecDepth 100000 in
theorem split_any (v1 v2 : Value) (la lb : List Int) (w : World) (h1 : ReadI w v1 la) (h2 : ReadI w v2 lb) :
    Calls Tryz.prog 32 #[v1, v2] w fun o w' => ∃ n : Nat, o = .returned (.int .i64 n) ∧ IsSpl la lb n ∧ Below w.heap.size w w' := by
  obtain ⟨A1, c1, rfl, p1, p2, r1⟩ := h1
  obtain ⟨A2, c2, rfl, p3, p4, r2⟩ := h2
  have R1 := Lib.hid r1
  have R2 := Lib.hid r2
  have HW := Lib.hid (Below.refl w.heap.size w)
  obtain ⟨n1, hn1⟩ : ∃ n, n = la.length := ⟨_, rfl⟩
  obtain ⟨n2, hn2⟩ : ∃ n, n = lb.length := ⟨_, rfl⟩
  have HN1 := Lib.hid hn1
  have HN2 := Lib.hid hn2
  rw [← hn1] at p1 ⊢
  rw [← hn2] at p3 ⊢
  clear r1 r2 hn1 hn2
  go_enter Tryz.func32, Tryz.ntmps32
  go_wp2_with fail
  go_loopw [5] (fun i wr => ∃ k : Nat, i = .int .i64 k ∧ k ≤ n1 ∧ k ≤ n2 ∧ Hid (∀ i (ha : i < la.length) (hb : i < lb.length), i < k → la[i] = lb[i]) ∧ Hid (Below w.heap.size w wr)) (fun i _ => n1 - (intOf i).toNat)
  case atStart => exact ⟨0, rfl, by omega, by omega, Lib.hid (fun i _ _ h => absurd h (by omega)), HW⟩
  case round =>
    obtain ⟨k, rfl, hk1, hk2, HE, KB⟩ := hrel
    by_cases hkn : k < n1 ∧ k < n2
    · have t1 : decide ((k : Int) < min (n1 : Int) n2) = true := decide_eq_true (by omega)
      obtain ⟨b1, o1, hA1, x1, d1⟩ := (R1.out.below KB.out).at_ k (by have := HN1.out; omega)
      obtain ⟨b2, o2, hA2, x2, d2⟩ := (R2.out.below KB.out).at_ k (by have := HN2.out; omega)
      subst hA1 hA2
      obtain ⟨x, hx⟩ : ∃ x, x = la[k]'(by have := HN1.out; omega) := ⟨_, rfl⟩
      obtain ⟨y, hy⟩ : ∃ y, y = lb[k]'(by have := HN2.out; omega) := ⟨_, rfl⟩
      rw [← hx] at d1
      rw [← hy] at d2
      have HX := Lib.hid hx
      have HY := Lib.hid hy
      have j0 : (0 : Int) ≤ k := by omega
      have j1 : (k : Int) < n1 := by omega
      have j2 : (k : Int) < n2 := by omega
      clear hx hy x1 x2
      go_wp2_with fail
      go_quiet (fail)
      cases hxy : (x == y) with
      | true =>
        go_wp2_with fail
        go_roundw
        case rel => exact ⟨k + 1, by go_num, by omega, by omega, Lib.hid (fun i ha hb hi => by
          by_cases e : i = k
          · subst e
            exact HX.out.symm.trans ((show x = y by simpa using hxy).trans HY.out)
          · exact HE.out i ha hb (by omega)), Lib.hid below_drewN KB.out _⟩
        case measure => simp [intOf]; omega
      | false =>
        go_wp2_with fail
        go_ret
        exact ⟨k, rfl, ⟨by have := HN1.out; omega, by have := HN2.out; omega, HE.out, fun ha hb e => by
          have : x = y := HX.out.trans (e.trans HY.out.symm)
          subst this
          simp at hxy⟩, below_drewN KB.out _⟩
    · have t1 : decide ((k : Int) < min (n1 : Int) n2) = false := decide_eq_false (by omega)
      go_wp2_with fail
      go_quiet (fail)
      go_wp2_with fail
      go_ret
      exact ⟨k, rfl, ⟨by have := HN1.out; omega, by have := HN2.out; omega, HE.out, fun ha hb => absurd ⟨by have := HN1.out; omega, by have := HN2.out; omega⟩ hkn⟩, below_drewN KB.out _⟩
theorem level_nil (S : Value) (f k : Int) (w : World) : Calls Tryz.prog 24 #[.pointer none, S, .int .i64 f, .int .u64 k] w fun o w' => o = .returned (.int .i64 (-1)) ∧ Below w.heap.size w w' := by
  have HW := Lib.hid (Below.refl w.heap.size w)
  go_enter Tryz.func24, Tryz.ntmps24
  go_wp2_with fail
  go_ret
  exact ⟨rfl, HW.out⟩
theorem host_nil (S : Value) (f k : Int) (w : World) : Calls Tryz.prog 21 #[.pointer none, S, .int .i64 f, .int .u64 k] w fun o w' => o = .returned (.int .i64 (-1)) ∧ Below w.heap.size w w' := by
  have HL := Lib.hid (level_nil S f k w)
  go_enter Tryz.func21, Tryz.ntmps21
  go_wp2_with fail
  refine HL.out.mono ?_
  rintro o w1 ⟨rfl, hb⟩
  have HB := Lib.hid hb
  clear hb
  go_wp2_with fail
  go_ret
  exact ⟨rfl, HB.out⟩
theorem spl2 {n : Nat} (h : IsSpl [0, 1, 2] [0, 1, 5] n) : n = 2 := by
  have h1 := h.la
  have h2 : n = 0 ∨ n = 1 ∨ n = 2 ∨ n = 3 := by
    simp at h1
    omega
  rcases h2 with rfl | rfl | rfl | rfl
  · exact absurd rfl (h.ne (by decide) (by decide))
  · exact absurd rfl (h.ne (by decide) (by decide))
  · rfl
  · exact absurd (h.eq 2 (by decide) (by decide) (by decide)) (by decide)
theorem read_lit (w : World) (a b c : Int) : ReadI (w.alloc (.cells #[.int .i64 a, .int .i64 b, .int .i64 c] 3)) (.slice (some ⟨w.heap.size, 0, none⟩) 3 3) [a, b, c] :=
  read_own (B := w.heap.size) ⟨rfl, .inr ⟨w.heap.size, 3, #[.int .i64 a, .int .i64 b, .int .i64 c], rfl, Nat.le_refl _, heap_alloc_new w _, Nat.le_refl _, by decide, rfl, rfl⟩⟩
set_option maxHeartbeats 4000000 in
theorem awake_any (w : World) : Calls Tryz.prog 15 #[] w fun o w' => o = .returned (.bool true) ∧ Below w.heap.size w w' := by
  obtain ⟨w1, hw1⟩ : ∃ w1, w1 = w.alloc (.cells #[.int .i64 0, .int .i64 1, .int .i64 2] 3) := ⟨_, rfl⟩
  obtain ⟨w2, hw2⟩ : ∃ w2, w2 = w1.alloc (.cells #[.int .i64 0, .int .i64 1, .int .i64 5] 3) := ⟨_, rfl⟩
  have R1 := Lib.hid (show ReadI w2 (.slice (some ⟨w.heap.size, 0, none⟩) 3 3) [0, 1, 2] from by
    rw [hw2]
    exact (by rw [hw1]; exact read_lit w 0 1 2 : ReadI w1 (.slice (some ⟨w.heap.size, 0, none⟩) 3 3) [0, 1, 2]).below ((Below.refl _ _).alloc (Nat.le_refl _) _))
  have R2 := Lib.hid (show ReadI w2 (.slice (some ⟨w.heap.size + 1, 0, none⟩) 3 3) [0, 1, 5] from by
    have e : w.heap.size + 1 = w1.heap.size := by rw [hw1]; simp
    rw [hw2, e]
    exact read_lit w1 0 1 5)
  have HB := Lib.hid (show Below w.heap.size w w2 from by
    rw [hw2, hw1]
    exact ((Below.refl w.heap.size w).alloc (Nat.le_refl _) _).alloc (by simp) _)
  have HSP := Lib.hid (split_any _ _ _ _ w2 R1.out R2.out)
  have E1 := Lib.hid hw1
  have E2 := Lib.hid hw2
  clear hw1 hw2
  go_enter Tryz.func15, Tryz.ntmps15
  go_wp2_with fail
  rw [← E1.out, ← E2.out]
  (with_reducible refine HSP.out.mono ?_)
  rintro o w3 ⟨n, rfl, hn, hb⟩
  obtain rfl := spl2 hn
  have HH := Lib.hid (host_nil (.pointer none) 0 7 w3)
  have HB3 := Lib.hid (HB.out.trans (hb.mono HB.out.size))
  clear hn hb
  go_wp2_with fail
  refine HH.out.mono ?_
  rintro o w4 ⟨rfl, hb⟩
  have HB4 := Lib.hid (HB3.out.trans (hb.mono HB3.out.size))
  clear hb
  go_wp2_with fail
  go_ret
  exact ⟨rfl, HB4.out⟩
end Go.Proofs.YtoaboklckkcjcaaGreat.walkD
