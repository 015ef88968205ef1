/- 3 texts in one. -/
import Derived.Test.YtoaboklckkcjcaaGreatPk09
import Derived.Test.YtoaboklckkcjcaaGreatPk12
import Derived.Test.YtoaboklckkcjcaaGreatPk18
import Derived.Test.YtoaboklckkcjcaaGreatPk20
/- Layer 26: a step and the way down, with a set that may be younger than the walker. -/
namespace Go.Proofs.YtoaboklckkcjcaaGreat.walkBk
open Go.ChangeShapes Go.WideShapes Go.ChangeAt Go.RowKit
open Go.Proofs.YtoaboklckkcjcaaGreat.base Go.Proofs.YtoaboklckkcjcaaGreat.dfA Go.Proofs.YtoaboklckkcjcaaGreat.treB Go.Proofs.YtoaboklckkcjcaaGreat.treD Go.Proofs.YtoaboklckkcjcaaGreat.treG Go.Proofs.YtoaboklckkcjcaaGreat.treH Go.Proofs.YtoaboklckkcjcaaGreat.treM Go.Proofs.YtoaboklckkcjcaaGreat.treW Go.Proofs.YtoaboklckkcjcaaGreat.eliW Go.Proofs.YtoaboklckkcjcaaGreat.eliA Go.Proofs.YtoaboklckkcjcaaGreat.eliB Go.Proofs.YtoaboklckkcjcaaGreat.eliE Go.Proofs.YtoaboklckkcjcaaGreat.wideG Go.Proofs.YtoaboklckkcjcaaGreat.wideH Go.Proofs.YtoaboklckkcjcaaGreat.strA Go.Proofs.YtoaboklckkcjcaaGreat.onceBw Go.Proofs.YtoaboklckkcjcaaGreat.onceCw Go.Proofs.YtoaboklckkcjcaaGreat.strCw Go.Proofs.YtoaboklckkcjcaaGreat.strDw Go.Proofs.YtoaboklckkcjcaaGreat.walkA Go.Proofs.YtoaboklckkcjcaaGreat.walkB Go.Proofs.YtoaboklckkcjcaaGreat.walkC
set_option linter.unusedVariables false

/-- A set that is as it is, whatever becomes of the block g. -/
def SetAl (z : World) (g S T q0 : Nat) (m : List Nd) (W : Nat → Int) : Prop := ∀ V, AsideG g z V → SetOk V S T q0 m W
theorem SetAl.below {z V : World} {g S T q0 : Nat} {m : List Nd} {W : Nat → Int} (h : SetAl z g S T q0 m W) (hb : AsideG g z V) : SetOk V S T q0 m W := h V hb
theorem SetAl.tree {z : World} {g S T q0 : Nat} {m : List Nd} {W : Nat → Int} (h : SetAl z g S T q0 m W) : TreeOk z T m := (h z (AsideG.refl g z)).tree
theorem SetAl.aside {z V : World} {g S T q0 : Nat} {m : List Nd} {W : Nat → Int} (h : SetAl z g S T q0 m W) (hb : AsideG g z V) : SetAl V g S T q0 m W := fun X hX => h X (hb.trans hX)
/-- A set that was there ahead of the walker. -/
theorem setAl_old {z w : World} {g S T q0 : Nat} {m : List Nd} {W : Nat → Int} (h : SetOk z S T q0 m W) (hb : Below z.heap.size z w) (hg : z.heap.size ≤ g) : SetAl w g S T q0 m W := fun V hV => h.below (hV.from hb hg (Nat.le_refl _))
/-- A set that was made behind the walker, of a tree that was there ahead of it. -/
theorem setAl_new {z w : World} {g S T q0 : Nat} {m : List Nd} {W : Nat → Int} (h : SetOk w S T q0 m W) (ht : TreeOk z T m) (hb : Below z.heap.size z w) (hg : z.heap.size ≤ g) (h1 : S ≠ g) (h2 : q0 ≠ g) : SetAl w g S T q0 m W := fun V hV => by
  obtain ⟨cs, h3, h4⟩ := h.wts
  exact ⟨hV.blk h.set h1, ⟨cs, hV.blk h3 h2, h4⟩, ht.below (hV.from hb hg (Nat.le_refl _))⟩
structure WSk (z : World) (g : Nat) (fac seed : Int) (w : World) : Prop where
  tab : Tab g (WT fac seed) w
  bel : AsideG g z w
section
variable {z w w' : World} {g : Nat} {fac seed : Int}
theorem WSk.below (h : WSk z g fac seed w) (hb : Below w.heap.size w w') : WSk z g fac seed w' := ⟨tab_below h.tab hb, h.bel.below hb⟩
theorem WSk.aside (h : WSk z g fac seed w) (ht : Tab g (WT fac seed) w') (ha : AsideG g w w') : WSk z g fac seed w' := ⟨ht, h.bel.trans ha⟩
theorem WSk.lt (h : WSk z g fac seed w) : g < w.heap.size := tab_lt h.tab
theorem WSk.c4 (h : WSk z g fac seed w) : w.cell? ⟨g, 4, none⟩ = some (.int .i64 fac) := by
  rcases h.tab with h | ⟨q, _, h, _⟩
  · exact h.cell 4
  · exact h.cell 4
theorem WSk.c5 (h : WSk z g fac seed w) : w.cell? ⟨g, 5, none⟩ = some (.int .u64 seed) := by
  rcases h.tab with h | ⟨q, _, h, _⟩
  · exact h.cell 5
  · exact h.cell 5
end
def WPk (z : World) (g : Nat) (fac seed : Int) (v : Value) (w : World) (o : Ending) (w' : World) : Prop := o = .returned v ∧ WSk z g fac seed w' ∧ AsideG g w w'
def DPk (z : World) (g : Nat) (fac seed : Int) (l : List Int) (w : World) (o : Ending) (w' : World) : Prop := ∃ v, o = .returned v ∧ OwnI w' w.heap.size v l ∧ WSk z g fac seed w' ∧ AsideG g w w'
theorem wsk_grown {z w w' : World} {g : Nat} {fac seed : Int} {B : Nat} {v : Value} {l : List Int} (h : WSk z g fac seed w) (ho : OwnI w B v l) (hB : g < B) (hz : z.heap.size ≤ B) (hg : w.grownBy w' v.ownBlock) : WSk z g fac seed w' :=
  ⟨tab_grown h.tab ho hB hg, aside_grown h.bel hg (fun k e => by have := (ho.lt k e).1; omega)⟩
set_option maxHeartbeats 8000000 in
set_option maxRecDepth 100000 in
theorem step_k {z w : World} {g S T q0 : Nat} {fac seed : Int} {m : List Nd} {W : Nat → Int} (hs : SetAl z g S T q0 m W) (h : WSk z g fac seed w) (hW : ∀ i, 0 ≤ W i ∧ W i < 18446744073709551616) (at' key : Int) :
    Calls Tryz.prog 13 #[.pointer (some ⟨g, 0, none⟩), .pointer (some ⟨S, 0, none⟩), .int .i64 at', .int .u64 key] w (WPk z g fac seed (.int .i64 (stepW m W seed key at')) w) := by
  have HS := Lib.hid (show ∀ V, AsideG g z V → SetOk V S T q0 m W from fun V hV => hs.below hV)
  have HW := Lib.hid h
  have d0 : w.cell? ⟨S, 0, none⟩ = some (.pointer (some ⟨T, 0, none⟩)) := (HS.out w h.bel).set.cell 0
  have HKI := Lib.hid (kids_own (HS.out w h.bel).tree at')
  have HIN := Lib.hid (fun x (hx : x ∈ kidsP m at') => kidsP_in hx)
  have hkl := kidsP_len m at'
  have hm := (HS.out w h.bel).tree.len
  obtain ⟨ks, hks⟩ : ∃ ks, ks = kidsP m at' := ⟨_, rfl⟩
  obtain ⟨it, hit⟩ : ∃ it, it = itemsW m W at' := ⟨_, rfl⟩
  have HIT := Lib.hid (show it = ks.map (fun k => (k, wtOf m W k)) from by rw [hit, hks]; rfl)
  obtain ⟨n, hn⟩ : ∃ n, n = ks.length := ⟨_, rfl⟩
  have hitl : it.length = n := by rw [HIT.out, List.length_map, hn]
  obtain ⟨mk, hmk⟩ : ∃ mk, mk = mixD.ofZ seed [key, IntKind.u64.wrap at'] := ⟨_, rfl⟩
  have HP := Lib.hid (show stepW m W seed key at' = pickL ks (pk mk it n) from by unfold stepW; rw [← hit, ← hks, hitl, hmk])
  have HITL := Lib.hid hitl
  have HN := Lib.hid hn
  have HMK := Lib.hid hmk
  have HGD := Lib.hid (show ∀ i, good (it.getD i (0, 0)) from fun i => by
    rw [HIT.out, List.getD_eq_getElem?_getD, List.getElem?_map]
    rcases hx : ks[i]? with _ | x
    · show good (0, 0)
      exact ⟨⟨by decide, by decide⟩, by decide, by decide⟩
    · have hin := HIN.out x (hks ▸ List.mem_of_getElem? hx)
      refine ⟨⟨hin.1, by have := hin.2; show x < _; omega⟩, ?_⟩
      show 0 ≤ wtOf m W x ∧ wtOf m W x < _
      unfold wtOf
      split
      · exact hW _
      · exact ⟨by decide, by decide⟩)
  have hn1 : n ≤ 1000 := by rw [hn, hks]; omega
  rw [← hks] at HKI HIN
  obtain ⟨res, hres⟩ : ∃ res, res = stepW m W seed key at' := ⟨_, rfl⟩
  rw [← hres] at HP ⊢
  have hg := h.lt
  clear hs h hW hks hit hitl hn hmk hres hkl hm
  go_enter Tryz.func13, Tryz.ntmps13
  go_wp2_with fail
  refine HKI.out.mono ?_
  rintro o w1 ⟨v1, rfl, ho1, hb1⟩
  have HB1 := Lib.hid hb1
  have HO1 := Lib.hid ho1
  have HW1 := Lib.hid (HW.out.below hb1)
  obtain ⟨i0, hi0, hz0, hz1, hz2⟩ := info_parts info_item
  have hmk := run_make (P := Tryz.prog) w1 95 97 i0 _ Tryz.underlying95 hi0 hz0 .i64 .i64 (n : Int) (n : Int) (by omega) (Int.le_refl _) (by rw [hz2]; omega) (by omega)
  rw [Int.toNat_natCast, hz1] at hmk
  obtain ⟨AK, cK, hv1⟩ := own_slice ho1
  rw [← HN.out] at hv1
  subst hv1
  have hrow := own_row (show w1.ownsRow w.heap.size 3 1 (.slice AK n cK) n (ks.map (.int .i64)) from by have := ho1; unfold OwnI at this; rwa [← HN.out] at this)
  obtain ⟨q, hq⟩ : ∃ q, q = w1.heap.size := ⟨_, rfl⟩
  have HQ := Lib.hid hq
  obtain ⟨MC, hMC⟩ : ∃ MC, MC = madeCells (Value.agg #[.int .u64 0, .int .u64 0]).cells (n * 2) := ⟨_, rfl⟩
  have HI0 := Lib.hid (show ItemsTo (w1.alloc (.cells MC 97)) q n it 0 from ⟨MC, hq ▸ Blk.new w1 _ _, by rw [hMC, size_madeCells], fun i hi => by omega⟩)
  rw [← hMC, ← hq] at hmk
  have HROW := Lib.hid hrow
  have HOK := Lib.hid (show w1.ownsRow w.heap.size 3 1 (.slice AK n cK) n (ks.map (.int .i64)) from by have := ho1; unfold OwnI at this; rwa [← HN.out] at this)
  have HA := Lib.hid (show Below w1.heap.size w1 (w1.alloc (.cells MC 97)) from (Below.refl _ _).alloc (Nat.le_refl _) _)
  clear hi0 hz0 hz1 hz2 hb1 ho1 hrow hq hMC d0
  go_wp2_with fail
  clear hmk
  go_loopw [31] (fun i wr => ∃ (j : Nat), j ≤ n ∧ i = .int .i64 j ∧ Hid (Below w1.heap.size w1 wr) ∧ Hid (ItemsTo wr q n it j)) (fun i _ => n - (intOf i).toNat)
  case atStart => exact ⟨0, by omega, rfl, HA, HI0⟩
  case round =>
    obtain ⟨j, hj, rfl, HB, HIj⟩ := hrel
    have HWr := Lib.hid (HW1.out.below HB.out)
    have hsr := HS.out wr HWr.out.bel
    by_cases hlt : j < n
    · have hjk : j < ks.length := HN.out ▸ hlt
      have hrj := HROW.out.below HB.out
      obtain ⟨b, off, hA, hbl, hc⟩ := hrj.at_ (by intro e; rw [List.map_eq_nil_iff] at e; rw [e] at hjk; simp at hjk)
      subst hA
      have ck : wr.cell? ⟨b, off + j, none⟩ = some (.int .i64 ks[j]) := hc j _ (by rw [List.getElem?_map, List.getElem?_eq_getElem hjk]; rfl)
      have hin := HIN.out ks[j] (List.getElem_mem hjk)
      have HX := Lib.hid (show it.getD j (0, 0) = (ks[j], wtOf m W ks[j]) from by rw [HIT.out, List.getD_eq_getElem?_getD, List.getElem?_map, List.getElem?_eq_getElem hjk]; rfl)
      have HNX := Lib.hid (fun k => (HIj.out.drewN k).next hlt)
      obtain ⟨⟨u1, o1⟩, f1⟩ := HIj.out.old (j * 2) (by omega)
      obtain ⟨⟨u2, o2⟩, f2⟩ := HIj.out.old (j * 2 + 1) (by omega)
      obtain ⟨kd, hkd⟩ : ∃ kd, kd = ks[j] := ⟨_, rfl⟩
      rw [← hkd] at ck hin HX
      have HWT := Lib.hid (weight_x hsr kd)
      obtain ⟨wt, hwt⟩ : ∃ wt, wt = wtOf m W kd := ⟨_, rfl⟩
      rw [← hwt] at HWT HX
      rw [HX.out] at HNX
      have hlm := hsr.tree.len
      have hcv : IntKind.u64.wrap kd = kd := by rw [IntKind.wrap_u64]; omega
      have j0 : (0 : Int) ≤ j := by omega
      have j1 : (j : Int) < n := by omega
      have qb : w1.heap.size ≤ q := by rw [HQ.out]; exact Nat.le_refl _
      clear hrj hbl hc hin hkd hwt hjk hsr hlm
      go_wp2_with fail
      refine HWT.out.mono ?_
      rintro o w2 ⟨rfl, nq, rfl⟩
      have HB2 := Lib.hid (show Below w1.heap.size w1 (((wr.drewN nq).setCell ⟨q, j * 2, none⟩ (.int .u64 kd)).setCell ⟨q, j * 2 + 1, none⟩ (.int .u64 wt)) from ((below_drewN HB.out nq).setCell qb _).setCell qb _)
      have HI2 := Lib.hid (HNX.out nq)
      go_wp2_with fail
      go_roundw
      case rel => exact ⟨j + 1, by omega, by go_num, HB2, HI2⟩
      case measure => simp [intOf]; omega
    · obtain rfl : n = j := by omega
      obtain ⟨a', ha'⟩ : ∃ a', a' = IntKind.u64.wrap at' := ⟨_, rfl⟩
      have hcv : IntKind.u64.wrap at' = a' := ha'.symm
      have HMK2 := Lib.hid (show mk = mixD.ofZ seed [key, a'] from ha' ▸ HMK.out)
      have c5 : wr.drew.cell? ⟨g, 5, none⟩ = some (.int .u64 seed) := HWr.out.c5
      obtain ⟨W1, hW1⟩ : ∃ W1, W1 = (wr.alloc (.cells #[.int .u64 key, .int .u64 a'] 24)).drew := ⟨_, rfl⟩
      have hb1 : Below wr.heap.size wr W1 := hW1 ▸ ((Below.refl wr.heap.size wr).alloc (Nat.le_refl _) _).drew
      have hrr : Row W1 W1.heap.size (some ⟨wr.heap.size, 0, none⟩) ([key, a'].map (.int .u64)) := .inr ⟨wr.heap.size, 0, rfl, by rw [hW1]; simp, fun i u hu => by
        rw [Nat.zero_add, hW1, World.cell?_drew, (Blk.new wr 24 #[.int .u64 key, .int .u64 a']).cell i, ← hu, ← Array.getElem?_toList]
        rfl⟩
      have HM := Lib.hid (mixD.of_any seed _ 2 2 [key, a'] _ _ rfl (by omega) hrr)
      rw [← HMK2.out] at HM
      have HWW := Lib.hid (HWr.out.below hb1)
      have hqg : q ≠ g := by have := HW1.out.lt; have := HQ.out; omega
      have hIW : ItemsTo W1 q n it n := by
        obtain ⟨cur, x1, x2, x3⟩ := HIj.out
        exact ⟨cur, x1.below hb1 x1.lt, x2, x3⟩
      have HPK := Lib.hid (strDw.pick_any g (WT fac seed) mk (some ⟨q, 0, none⟩) n n it W1 HWW.out.tab HITL.out hn1 HGD.out (fun w' ha => (hIW.aside ha hqg).row HITL.out))
      have c5' : W1.cell? ⟨g, 5, none⟩ = some (.int .u64 seed) := HWW.out.c5
      have HW1' := Lib.hid hW1
      have HA1 := Lib.hid (((AsideG.refl g w1).below HB.out).below hb1)
      have c6 : (wr.alloc (.cells #[.int .u64 key, .int .u64 a'] 24)).drew.cell? ⟨g, 5, none⟩ = some (.int .u64 seed) := hW1 ▸ c5'
      clear ha' hb1 hrr hW1 hIW hsr
      go_wp2_with fail
      go_region_held3 (fun w' => w'.cell? ⟨g, 5, none⟩ = some (.int .u64 seed)) (first | with_reducible assumption)
        (first
          | (go_at_call 46; rw [← HW1'.out]; (with_reducible refine HM.out.mono ?_); rintro e w' ⟨rfl, rfl⟩)
          | (go_at_call 45; (with_reducible refine HPK.out.mono ?_)
             rintro e w5 ⟨rfl, ht5, ha5⟩
             have HA5 := Lib.hid (HA1.out.trans ha5)
             have HW5 := Lib.hid (HWW.out.aside ht5 ha5)
             have c7 : w5.cell? ⟨g, 5, none⟩ = some (.int .u64 seed) := HW5.out.c5
             clear ht5 ha5))
      have HAW := Lib.hid (((AsideG.refl g w).below HB1.out).trans HA5.out)
      rcases hpk : pk mk it n with _ | p
      · have HRS := Lib.hid (show res = -1 from by rw [HP.out, hpk]; rfl)
        rw [show plc none = -1 from rfl]
        clear hpk c5 c5' c6 c7
        go_wp2_with fail
        go_ret
        exact ⟨by rw [HRS.out]; rfl, HW5.out, HAW.out⟩
      · have hpn := (pk_lt mk it n p hpk).1
        have HRS := Lib.hid (show res = ks.getD p 0 from by rw [HP.out, hpk]; rfl)
        rw [show plc (some p) = (p : Int) from rfl]
        obtain ⟨gk, ck, hvk, hgk, hgl, _, _, hck, _⟩ := own_form HOK.out (by omega)
        injection hvk with hv1 hv2 hv3
        subst hv1 hv3
        have c0 : w1.cell? ⟨gk, p, none⟩ = some (.int .i64 res) := by
          rw [hck p hpn, List.getElem?_map, List.getElem?_eq_getElem (by rw [← HN.out]; exact hpn), HRS.out, List.getD_eq_getElem?_getD, List.getElem?_eq_getElem (by rw [← HN.out]; exact hpn)]
          rfl
        have c1 : w5.cell? ⟨gk, p, none⟩ = some (.int .i64 res) := by
          have hb := HA5.out.block gk hgl (by omega)
          rw [← c0]
          unfold World.cell?
          rw [hb]
        have t1 : ((p : Int) == -1) = false := beq_eq_false_iff_ne.mpr (by omega)
        have p0 : (0 : Int) ≤ p := by omega
        have p1 : (p : Int) < n := by omega
        clear hpk c5 c5' c6 c7 c0 hck
        go_wp2_with fail
        go_ret
        exact ⟨rfl, HW5.out, HAW.out⟩
set_option maxHeartbeats 8000000 in
set_option maxRecDepth 100000 in
theorem down_k {z w : World} {g S T q0 : Nat} {fac seed : Int} {m : List Nd} {W : Nat → Int} (hs : SetAl z g S T q0 m W) (h : WSk z g fac seed w) (hW : ∀ i, 0 ≤ W i ∧ W i < 18446744073709551616) (at' key : Int) :
    Calls Tryz.prog 14 #[.pointer (some ⟨g, 0, none⟩), .pointer (some ⟨S, 0, none⟩), .int .i64 at', .int .u64 key] w (DPk z g fac seed (downW m W seed key at') w) := by
  have HS := Lib.hid (show ∀ V, AsideG g z V → SetOk V S T q0 m W from fun V hV => hs.below hV)
  have HF := Lib.hid (fine_of hs.tree.good)
  have HW := Lib.hid h
  have HST := Lib.hid (show ∀ V, WSk z g fac seed V → ∀ a, Calls Tryz.prog 13 #[.pointer (some ⟨g, 0, none⟩), .pointer (some ⟨S, 0, none⟩), .int .i64 a, .int .u64 key] V (WPk z g fac seed (.int .i64 (stepW m W seed key a)) V) from fun V hV a => step_k hs hV hW a key)
  have HHA := Lib.hid (has_x (HS.out w h.bel) at')
  have HR := Lib.hid (show downW m W seed key at' = if (wtOf m W at' != 0) = true then (wayF m W seed key 4 at').getD [] else [] from rfl)
  have HAT := Lib.hid (show (wtOf m W at' != 0) = true → 0 ≤ at' ∧ at' < (m.length : Int) from fun e => by
    unfold wtOf at e
    split at e
    · rename_i hq
      unfold isB at hq
      simp only [Bool.and_eq_true, decide_eq_true_eq] at hq
      omega
    · exact absurd e (by decide))
  obtain ⟨i0, hi0, hz0, hz1, hz2⟩ := info_parts info_i
  have HI0 := Lib.hid hi0
  have HZ0 := Lib.hid hz0
  have HZ1 := Lib.hid hz1
  have HZ2 := Lib.hid hz2
  obtain ⟨res, hres⟩ : ∃ res, res = downW m W seed key at' := ⟨_, rfl⟩
  rw [← hres] at HR ⊢
  obtain ⟨full, hfull⟩ : ∃ full, full = wayF m W seed key 4 at' := ⟨_, rfl⟩
  rw [← hfull] at HR
  have HFU := Lib.hid (show full = (wayF m W seed key 4 at').map ([] ++ ·) from by rw [hfull]; simp)
  have hg := h.lt
  have hzw := h.bel.size
  obtain ⟨y, hy⟩ : ∃ y, y = (wtOf m W at' != 0) := ⟨_, rfl⟩
  rw [← hy] at HR HAT HHA
  clear hs h hres hfull hi0 hz0 hz1 hz2 hy hW
  go_enter Tryz.func14, Tryz.ntmps14
  go_wp2_with fail
  refine HHA.out.mono ?_
  rintro o w1 ⟨rfl, nq, rfl⟩
  have HW1 := Lib.hid (HW.out.below (below_n w nq))
  have HA1 := Lib.hid (asideB (g := g) (below_n w nq))
  cases y with
  | false =>
    rw [if_neg (by decide)] at HR
    go_wp2_with fail
    go_ret
    exact ⟨_, rfl, by rw [HR.out]; exact ownI_nil _ _, HW1.out, HA1.out⟩
  | true =>
    rw [if_pos rfl] at HR
    have hat := HAT.out rfl
    have OE := Lib.hid (show OwnI ((w.drewN nq).alloc (.cells #[.int .i64 at'] 3)) w.heap.size (.slice (some ⟨w.heap.size, 0, none⟩) 1 1) [at'] from ⟨rfl, .inr ⟨w.heap.size, 1, #[.int .i64 at'], rfl, Nat.le_refl _, heap_alloc_new (w.drewN nq) _, Nat.le_refl _, by decide, rfl, rfl⟩⟩)
    have WE := Lib.hid (HW1.out.below ((Below.refl _ _).alloc (Nat.le_refl _) (.cells #[.int .i64 at'] 3)))
    have AE := Lib.hid (HA1.out.below ((Below.refl _ _).alloc (Nat.le_refl _) (.cells #[.int .i64 at'] 3)))
    go_wp2_with fail
    go_loopw [2, 9] (fun i v wr => ∃ (a : Int) (l : List Int) (f : Nat), i = .int .i64 a ∧ (0 ≤ a ∧ a < (m.length : Int)) ∧ 5 ≤ (f : Int) + (ndAt m a).kind ∧ l.length + f = 4 ∧ Hid (full = (wayF m W seed key f a).map (l ++ ·)) ∧ Hid (OwnI wr w.heap.size v (l ++ [a])) ∧ Hid (WSk z g fac seed wr) ∧ Hid (AsideG g w wr)) (fun i _ _ => 5 - (ndAt m (intOf i)).kind.toNat)
    case atStart => exact ⟨at', [], 4, rfl, hat, by have := (HF.out.lo at'.toNat (by omega)); have e := ndAt_nat (m := m) (b := at'.toNat) (by omega); rw [Int.toNat_of_nonneg hat.1] at e; rw [e]; omega, rfl, HFU, OE, WE, AE⟩
    case round =>
      obtain ⟨a, l, f, rfl, ha, hf, hl, HE, HO, HWr, HAr⟩ := hrel
      have hhi : (ndAt m a).kind ≤ 4 := by
        have := (HF.out.hi a.toNat (by omega))
        have e := ndAt_nat (m := m) (b := a.toNat) (by omega)
        rw [Int.toNat_of_nonneg ha.1] at e
        rw [e]
        exact this
      obtain ⟨f, rfl⟩ : ∃ f', f = f' + 1 := ⟨f - 1, by omega⟩
      have d0 : wr.cell? ⟨S, 0, none⟩ = some (.pointer (some ⟨T, 0, none⟩)) := (HS.out wr HWr.out.bel).set.cell 0
      have HND := Lib.hid (show Calls Tryz.prog 30 #[.pointer (some ⟨T, 0, none⟩), .int .i64 a] wr fun o w' => o = .returned (.agg (ndAt m a).cells) ∧ Below wr.heap.size wr w' from by
        obtain ⟨A2, c2, K2, kc2, ht2⟩ := (HS.out wr HWr.out.bel).tree.at_
        exact node_any ht2 a)
      have HST1 := Lib.hid (fun w2 (hw : WSk z g fac seed w2) => HST.out w2 hw a)
      have HSK := Lib.hid (fun hb => step_kind HF.out (m := m) (W := W) (seed := seed) (key := key) (a := a) hb)
      have HE2 := HE.out
      unfold wayF at HE2
      obtain ⟨b, hb⟩ : ∃ b, b = stepW m W seed key a := ⟨_, rfl⟩
      rw [← hb] at HST1 HSK HE2
      obtain ⟨e, he⟩ : ∃ e, e = ndAt m a := ⟨_, rfl⟩
      rw [← he] at HND HSK hf hhi HE2
      have HEE := Lib.hid he
      have hfd : ∀ W, (Instr.field 67 (.agg #[.string e.nm, .int .i64 e.kind, .int .i64 e.ab, .int .i64 e.wt, .bool e.v6, .int .u64 e.hi, .int .u64 e.lo]) 1).run Tryz.prog W = .ok (.int .i64 e.kind) W := fun _ => by kernel_rfl
      unfold Nd.cells at HND
      clear he hb
      go_wp2_with fail
      refine HND.out.mono ?_
      rintro o w2 ⟨rfl, hb⟩
      have HW2 := Lib.hid (HWr.out.below hb)
      have HO2 := Lib.hid (HO.out.below hb)
      have HA2 := Lib.hid (HAr.out.below hb)
      clear hb
      cases hk : (e.kind == 4) with
      | true =>
        rw [hk, if_pos rfl] at HE2
        have hkn : (e.kind != 4) = false := by unfold bne; rw [hk]; rfl
        go_wp2_with fail
        go_ret
        exact ⟨_, rfl, by rw [HR.out, HE2]; exact HO2.out, HW2.out, HA2.out⟩
      | false =>
        rw [hk, if_neg (by decide)] at HE2
        have hkn : (e.kind != 4) = true := by unfold bne; rw [hk]; rfl
        go_wp2_with fail
        refine (HST1.out w2 HW2.out).mono ?_
        rintro o w3 ⟨rfl, hw3, ha3⟩
        have HW3 := Lib.hid hw3
        have HO3 := Lib.hid (own_aside HO2.out ha3 hg)
        have HA3 := Lib.hid (HA2.out.trans ha3)
        clear hw3 ha3
        cases hb1 : (b == -1) with
        | true =>
          rw [if_pos (by simpa using hb1)] at HE2
          go_wp2_with fail
          go_ret
          exact ⟨_, rfl, by rw [HR.out, HE2]; exact ownI_nil _ _, HW3.out, HA3.out⟩
        | false =>
          have hbn : b ≠ -1 := by simpa using hb1
          have hsk := HSK.out hbn
          rw [if_neg hbn] at HE2
          have KO2 := Lib.hid (HO3.out.alloc (.cells #[.int .i64 b] 3))
          have KW2 := Lib.hid (HW3.out.below ((Below.refl _ _).alloc (Nat.le_refl _) (.cells #[.int .i64 b] 3)))
          have KA2 := Lib.hid (HA3.out.below ((Below.refl _ _).alloc (Nat.le_refl _) (.cells #[.int .i64 b] 3)))
          have HNE := Lib.hid (show ∀ p u, [Value.int .i64 b][p]? = some u → (w3.alloc (.cells #[.int .i64 b] 3)).cell? ((⟨w3.heap.size, 0, none⟩ : Addr).add p) = some u from fun p u hu => by
            rw [Addr.add_lit, Nat.zero_add, (Blk.new w3 3 #[.int .i64 b]).cell p]
            have h2 : (#[Value.int .i64 b])[p]? = some u := by simpa using hu
            exact h2)
          have H1 := Lib.hid (show ∀ u ∈ [Value.int .i64 (b : Int)], u.oneCell' = true from fun u hu => by simp at hu; subst hu; rfl)
          have P0 : (l ++ [a]).length ≤ 5 := by rw [List.length_append]; simp; omega
          have P1 := Lib.hid (show (l ++ [a]).length + 1 ≤ maxLen by unfold maxLen; omega)
          have P2 := Lib.hid (show ((l ++ [a]).length + 1) * 8 ≤ 140737488355328 by omega)
          have P3 := Lib.hid (show w.heap.size ≤ (w3.alloc (.cells #[.int .i64 b] 3)).heap.size from KA2.out.size)
          go_wp2_with (at_builtin; refine wpList_append_own _ rfl (.tmp 35) (.tmp 37) _ rfl w.heap.size 3 i0 _ 1 8 Tryz.underlying23 HI0.out HZ0.out HZ1.out HZ2.out rfl (by omega) _ (l ++ [a]).length ((l ++ [a]).map (Value.int .i64)) rfl KO2.out ⟨w3.heap.size, 0, none⟩ 1 1 [.int .i64 b] rfl rfl HNE.out H1.out P1.out P2.out P3.out ?_; intro v6 w6 ho hg6 _; have HO6 := Lib.hid (OwnI.snoc (l := l ++ [a]) ho); have HW6 := Lib.hid (wsk_grown KW2.out KO2.out hg hzw hg6); have HA6 := Lib.hid (aside_grown KA2.out hg6 (fun k hk => (KO2.out.lt k hk).1)); clear ho hg6)
          go_roundw
          case rel => exact ⟨b, l ++ [a], f, rfl, ⟨hsk.1, hsk.2.1⟩, by omega, by rw [List.length_append]; simp; omega, Lib.hid (by rw [HE2, Option.map_map]; congr 1; funext x; simp), HO6, HW6, HA6⟩
          case measure => simp only [intOf]; rw [hsk.2.2, HEE.out.symm]; omega
end Go.Proofs.YtoaboklckkcjcaaGreat.walkBk
/- Layer 26: loads, level and host, with a set that may be younger than the walker. -/
namespace Go.Proofs.YtoaboklckkcjcaaGreat.walkMk
open Go.ChangeShapes Go.WideShapes Go.ChangeAt Go.RowKit
open Go.Proofs.YtoaboklckkcjcaaGreat.base Go.Proofs.YtoaboklckkcjcaaGreat.dfA Go.Proofs.YtoaboklckkcjcaaGreat.treB Go.Proofs.YtoaboklckkcjcaaGreat.treD Go.Proofs.YtoaboklckkcjcaaGreat.treM Go.Proofs.YtoaboklckkcjcaaGreat.treW Go.Proofs.YtoaboklckkcjcaaGreat.eliW Go.Proofs.YtoaboklckkcjcaaGreat.eliA Go.Proofs.YtoaboklckkcjcaaGreat.eliB Go.Proofs.YtoaboklckkcjcaaGreat.eliG Go.Proofs.YtoaboklckkcjcaaGreat.eliH Go.Proofs.YtoaboklckkcjcaaGreat.onceBw Go.Proofs.YtoaboklckkcjcaaGreat.wideF Go.Proofs.YtoaboklckkcjcaaGreat.walkA Go.Proofs.YtoaboklckkcjcaaGreat.walkB Go.Proofs.YtoaboklckkcjcaaGreat.walkC Go.Proofs.YtoaboklckkcjcaaGreat.walkG Go.Proofs.YtoaboklckkcjcaaGreat.walkL Go.Proofs.YtoaboklckkcjcaaGreat.walkH Go.Proofs.YtoaboklckkcjcaaGreat.walkM Go.Proofs.YtoaboklckkcjcaaGreat.walkBk
set_option linter.unusedVariables false

set_option maxHeartbeats 8000000 in
set_option maxRecDepth 100000 in
theorem loads_k {z w : World} {g S T q0 : Nat} {fac seed : Int} {m : List Nd} {W : Nat → Int} (hs : SetAl z g S T q0 m W) (h : WSk z g fac seed w) (hm : m.length ≤ 60) (f : Int) :
    Calls Tryz.prog 19 #[.pointer (some ⟨g, 0, none⟩), .pointer (some ⟨S, 0, none⟩), .int .i64 f] w fun o w' => ∃ v, o = .returned v ∧ OwnI w' w.heap.size v (loadsW m W fac f) ∧ Below w.heap.size w w' := by
  have HC := Lib.hid (counts_any (hs.below h.bel) hm)
  have HW := Lib.hid h
  have HLD := Lib.hid (show loadsW m W fac f = sharesL (turnL (haveL m W) f) (turnL (allL m) f) fac from rfl)
  have HH := Lib.hid (show haveL m W = (List.range (ofK m 1 m.length).length).map fun q => ((cntL m (fun x => wtOf m W x != 0) (lvA m q) (ofK m 4 m.length) : Nat) : Int) from rfl)
  have HA := Lib.hid (show allL m = (List.range (ofK m 1 m.length).length).map fun q => ((cntL m (fun _ => true) (lvA m q) (ofK m 4 m.length) : Nat) : Int) from rfl)
  have hol := ofK_len m 1 m.length
  obtain ⟨n, hn⟩ : ∃ n, n = (ofK m 1 m.length).length := ⟨_, rfl⟩
  rw [← hn] at HC HH HA hol
  obtain ⟨l1, hl1⟩ : ∃ l, l = haveL m W := ⟨_, rfl⟩
  obtain ⟨l2, hl2⟩ : ∃ l, l = allL m := ⟨_, rfl⟩
  rw [← hl1] at HH HLD
  rw [← hl2] at HA HLD
  have e1 : l1.length = n := by rw [HH.out, List.length_map, List.length_range]
  have e2 : l2.length = n := by rw [HA.out, List.length_map, List.length_range]
  have hn1 : n ≤ 1000 := by omega
  obtain ⟨res, hres⟩ : ∃ res, res = loadsW m W fac f := ⟨_, rfl⟩
  rw [← hres] at HLD ⊢
  have E1 := Lib.hid e1
  have E2 := Lib.hid e2
  have H1000 := Lib.hid hn1
  clear hs h hn hl1 hl2 hres hol e1 e2 hn1
  go_enter Tryz.func19, Tryz.ntmps19
  go_wp2_with fail
  refine HC.out.mono ?_
  rintro o w1 ⟨g1, g2, rfl, ⟨c1, b1, a1⟩, ⟨c2, b2, a2⟩, hb⟩
  have HB := Lib.hid hb
  have R1 := Lib.hid (show Row w1 w1.heap.size (some ⟨g1, 0, none⟩) (l1.map (.int .i64)) from HH.out ▸ row_cs b1 a1)
  have R2 := Lib.hid (show Row w1 w1.heap.size (some ⟨g2, 0, none⟩) (l2.map (.int .i64)) from HA.out ▸ row_cs b2 a2)
  have k0 : Below w1.heap.size w1 w1.drew ∧ w1.drew.cell? ⟨g, 4, none⟩ = some (.int .i64 fac) := ⟨(Below.refl _ _).drew, (HW.out.below hb).c4⟩
  have G1 := b1.lt
  have G2 := b2.lt
  have HT1 := Lib.hid (show ∀ V, (Below w1.heap.size w1 V ∧ V.cell? ⟨g, 4, none⟩ = some (.int .i64 fac)) → Calls Tryz.prog 54 #[.slice (some ⟨g1, 0, none⟩) n n, .int .i64 f] V fun o w' => ∃ v, o = .returned v ∧ OwnI w' V.heap.size v (turnL l1 f) ∧ Below V.heap.size V w' from fun V hV => turn_any g1 n l1 f V E1.out H1000.out ((R1.out.below hV.1).more hV.1.size) (Nat.lt_of_lt_of_le G1 hV.1.size))
  have HT2 := Lib.hid (show ∀ V, (Below w1.heap.size w1 V ∧ V.cell? ⟨g, 4, none⟩ = some (.int .i64 fac)) → Calls Tryz.prog 54 #[.slice (some ⟨g2, 0, none⟩) n n, .int .i64 f] V fun o w' => ∃ v, o = .returned v ∧ OwnI w' V.heap.size v (turnL l2 f) ∧ Below V.heap.size V w' from fun V hV => turn_any g2 n l2 f V E2.out H1000.out ((R2.out.below hV.1).more hV.1.size) (Nat.lt_of_lt_of_le G2 hV.1.size))
  have HOF := Lib.hid (show ∀ V v1 v2 B1 B2, (Below w1.heap.size w1 V ∧ V.cell? ⟨g, 4, none⟩ = some (.int .i64 fac)) → OwnI V B1 v1 (turnL l1 f) → OwnI V B2 v2 (turnL l2 f) → Calls Tryz.prog 53 #[v1, v2, .int .i64 fac] V fun o w' => ∃ v, o = .returned v ∧ OwnI w' w1.heap.size v res ∧ Below V.heap.size V w' from fun V v1 v2 B1 B2 hV h1 h2 => by
    rw [HLD.out]
    refine (of_any v1 v2 _ _ fac V B1 B2 h1 h2 (by rw [turnL_len, E1.out]; exact H1000.out) (by rw [turnL_len, E2.out]; exact H1000.out)).mono ?_
    rintro o w' ⟨v, e, ho, hb⟩
    exact ⟨v, e, ownI_up ho hV.1.size, hb⟩)
  clear b1 a1 b2 a2 hb G1 G2
  go_wp2_with fail
  go_region_held3 (fun w' => Below w1.heap.size w1 w' ∧ w'.cell? ⟨g, 4, none⟩ = some (.int .i64 fac))
    (first | exact k0 | (refine keep1 ?_ hb; assumption))
    (first
      | (go_at_call 54
         first
           | ((with_reducible refine (HT1.out _ (by assumption)).mono ?_); rintro e w' ⟨v1, rfl, ho, hb⟩; have HO1 := Lib.hid ho; try (have HO2' := Lib.hid (HO2.out.below hb)))
           | ((with_reducible refine (HT2.out _ (by assumption)).mono ?_); rintro e w' ⟨v2, rfl, ho, hb⟩; have HO2 := Lib.hid ho; try (have HO1' := Lib.hid (HO1.out.below hb))))
      | (go_at_call 53
         first
           | ((with_reducible refine (HOF.out _ _ _ _ _ (by assumption) HO1'.out HO2.out).mono ?_); rintro e w' ⟨v3, rfl, ho3, hb⟩; have HO3 := Lib.hid ho3)
           | ((with_reducible refine (HOF.out _ _ _ _ _ (by assumption) HO1.out HO2'.out).mono ?_); rintro e w' ⟨v3, rfl, ho3, hb⟩; have HO3 := Lib.hid ho3)))
  all_goals
    rename_i hH
    have HB3 := Lib.hid (HB.out.trans (hH.1.mono HB.out.size))
    have HO4 := Lib.hid (ownI_up HO3.out HB.out.size)
    clear hH k0
    go_wp2_with fail
    go_ret
    exact ⟨_, rfl, HO4.out, HB3.out⟩
set_option maxHeartbeats 8000000 in
set_option maxRecDepth 100000 in
theorem level_k {z w : World} {g S T q0 : Nat} {fac seed : Int} {m : List Nd} {W : Nat → Int} (hs : SetAl z g S T q0 m W) (h : WSk z g fac seed w) (hm : m.length ≤ 60) (f key : Int) :
    Calls Tryz.prog 24 #[.pointer (some ⟨g, 0, none⟩), .pointer (some ⟨S, 0, none⟩), .int .i64 f, .int .u64 key] w fun o w' => o = .returned (.int .i64 (levelW m W seed fac f key)) ∧ Below w.heap.size w w' := by
  have HL := Lib.hid (loads_k hs h hm f)
  have HW := Lib.hid h
  have HV := Lib.hid (show levelW m W seed fac f key = loadH.backZ (loadF.lev (loadsW m W fac f) (mixB.below (mixD.ofZ seed [key]) 10000) (loadsW m W fac f).length) f (loadsW m W fac f).length from rfl)
  have HLE := Lib.hid (show (loadsW m W fac f).length ≤ 4 from shares_len _ _ _)
  have HIN := Lib.hid (show ∀ i, 0 ≤ (loadsW m W fac f).getD i 0 ∧ (loadsW m W fac f).getD i 0 ≤ 20000 from fun i => shares_in _ _ _ i)
  obtain ⟨l, hl⟩ : ∃ l, l = loadsW m W fac f := ⟨_, rfl⟩
  rw [← hl] at HL HV HLE HIN
  obtain ⟨n, hn⟩ : ∃ n, n = l.length := ⟨_, rfl⟩
  have HN := Lib.hid hn
  rw [← hn] at HV HLE
  obtain ⟨res, hres⟩ : ∃ res, res = levelW m W seed fac f key := ⟨_, rfl⟩
  rw [← hres] at HV ⊢
  clear hs h hl hn hres
  go_enter Tryz.func24, Tryz.ntmps24
  go_wp2_with fail
  refine HL.out.mono ?_
  rintro o w1 ⟨v, rfl, ho, hb⟩
  have HB := Lib.hid hb
  obtain ⟨A, c, hv⟩ := own_slice ho
  subst hv
  rw [← HN.out] at ho ⊢
  have HO := Lib.hid ho
  have c5 : w1.cell? ⟨g, 5, none⟩ = some (.int .u64 seed) := (HW.out.below hb).c5
  obtain ⟨w2, hw2⟩ : ∃ w2, w2 = w1.alloc (.cells #[.int .u64 key] 24) := ⟨_, rfl⟩
  have hb2 : Below w1.heap.size w1 w2 := hw2 ▸ (Below.refl _ _).alloc (Nat.le_refl _) _
  have hr : Row w2 (w1.heap.size + 1) (some ⟨w1.heap.size, 0, none⟩) ([key].map (.int .u64)) := .inr ⟨w1.heap.size, 0, rfl, by omega, fun i u hu => by
    rw [Nat.zero_add, hw2, (Blk.new w1 24 #[.int .u64 key]).cell i]
    simpa using hu⟩
  have HM := Lib.hid (mixD.of_any seed _ 1 1 [key] _ _ rfl (by omega) hr)
  have hmi := strA.mix_in seed key
  obtain ⟨x, hx⟩ : ∃ x, x = mixD.ofZ seed [key] := ⟨_, rfl⟩
  rw [← hx] at HM HV hmi
  have HBW := Lib.hid (mixB.below_any x 10000 hmi.1 hmi.2 (by omega) (by omega) w2)
  have hbd := below_10 hmi.1 hmi.2
  obtain ⟨y, hy⟩ : ∃ y, y = mixB.below x 10000 := ⟨_, rfl⟩
  rw [← hy] at HBW HV hbd
  have HLV := Lib.hid (loadF.level_any A n c l y w2 HN.out.symm HLE.out (fun i _ => by have := HIN.out i; omega) (own_row (show w2.ownsRow w.heap.size 3 1 (.slice A n c) n (l.map (.int .i64)) from by
    have h1 := (show OwnI w1 w.heap.size (.slice A n c) l from ho).below hb2
    unfold OwnI at h1
    rwa [← HN.out] at h1)) (by omega) (by omega))
  have hli := lev_in l y n
  obtain ⟨q, hq⟩ : ∃ q, q = loadF.lev l y n := ⟨_, rfl⟩
  rw [← hq] at HLV HV hli
  have HBK := Lib.hid (loadH.back_any q f n (by have := HLE.out; omega) (by omega) (by have := HLE.out; omega) w2)
  have HB2 := Lib.hid (hb.trans (hb2.mono hb.size))
  have HW2 := Lib.hid hw2
  have hle := HLE.out
  clear hb hb2 hw2 hr hx hy hq ho hmi hbd hli
  go_wp2_with fail
  rw [← HW2.out]
  refine HM.out.mono ?_
  rintro o w' ⟨rfl, rfl⟩
  go_wp2_with fail
  refine HBW.out.mono ?_
  rintro o w' ⟨rfl, rfl⟩
  go_wp2_with fail
  refine HLV.out.mono ?_
  rintro o w' ⟨rfl, rfl⟩
  go_wp2_with fail
  refine HBK.out.mono ?_
  rintro o w' ⟨rfl, rfl⟩
  go_wp2_with fail
  go_ret
  exact ⟨by rw [HV.out]; rfl, HB2.out⟩
set_option maxHeartbeats 8000000 in
set_option maxRecDepth 100000 in
theorem host_k {z w : World} {g S T q0 : Nat} {fac seed : Int} {m : List Nd} {W : Nat → Int} (hs : SetAl z g S T q0 m W) (h : WSk z g fac seed w) (hm : m.length ≤ 60) (hW : ∀ i, 0 ≤ W i ∧ W i < 18446744073709551616) (f key : Int) :
    Calls Tryz.prog 21 #[.pointer (some ⟨g, 0, none⟩), .pointer (some ⟨S, 0, none⟩), .int .i64 f, .int .u64 key] w (WPk z g fac seed (.int .i64 (hostW m W seed fac f key)) w) := by
  have HL := Lib.hid (level_k hs h hm f key)
  have HW := Lib.hid h
  have HSZ := Lib.hid hs
  have HRG := Lib.hid (level_range m W seed fac f key)
  have HWY := Lib.hid (show wayW m W seed fac f key = if levelW m W seed fac f key = -1 then [] else downW m W seed key ((ofK m 1 m.length).getD (levelW m W seed fac f key).toNat 0) from rfl)
  have HH := Lib.hid (show hostW m W seed fac f key = (wayW m W seed fac f key).getLast?.getD (-1) from rfl)
  have HDN := Lib.hid (show ∀ V, WSk z g fac seed V → ∀ a, Calls Tryz.prog 14 #[.pointer (some ⟨g, 0, none⟩), .pointer (some ⟨S, 0, none⟩), .int .i64 a, .int .u64 key] V (DPk z g fac seed (downW m W seed key a) V) from fun V hV a => down_k hs hV hW a key)
  have HLS := Lib.hid (show ∀ V, WSk z g fac seed V → V.cell? ⟨S, 0, none⟩ = some (.pointer (some ⟨T, 0, none⟩)) ∧ Calls Tryz.prog 55 #[.pointer (some ⟨T, 0, none⟩)] V fun o w' => ∃ v, o = .returned v ∧ OwnI w' V.heap.size v (ofK m 1 m.length) ∧ Below V.heap.size V w' from fun V hV => by
    have h1 := hs.below hV.bel
    obtain ⟨A2, c2, K2, kc2, ht2⟩ := h1.tree.at_
    exact ⟨h1.set.cell 0, levels_any ht2 (by omega)⟩)
  obtain ⟨x, hx⟩ : ∃ x, x = levelW m W seed fac f key := ⟨_, rfl⟩
  obtain ⟨wy, hwy⟩ : ∃ wy, wy = wayW m W seed fac f key := ⟨_, rfl⟩
  obtain ⟨res, hres⟩ : ∃ res, res = hostW m W seed fac f key := ⟨_, rfl⟩
  rw [← hx] at HL HRG HWY
  rw [← hwy] at HWY HH
  rw [← hres] at HH ⊢
  have hg := h.lt
  clear hs h hW hx hwy hres
  go_enter Tryz.func21, Tryz.ntmps21
  go_wp2_with fail
  refine HL.out.mono ?_
  rintro o w1 ⟨rfl, hb⟩
  have HW1 := Lib.hid (HW.out.below hb)
  have HA1 := Lib.hid (asideB (g := g) hb)
  clear hb
  rcases HRG.out with rfl | hr
  · have HRS := Lib.hid (show res = -1 from by rw [HH.out, HWY.out, if_pos rfl]; rfl)
    go_wp2_with fail
    go_ret
    exact ⟨by rw [HRS.out]; rfl, HW1.out, HA1.out⟩
  · have hxn : x ≠ -1 := by omega
    have t1 : (x == -1) = false := beq_false_of_ne hxn
    obtain ⟨k, rfl⟩ : ∃ k : Nat, x = (k : Int) := ⟨x.toNat, by omega⟩
    have hk : k < (ofK m 1 m.length).length := by omega
    have HW2 := HWY.out
    rw [if_neg hxn, Int.toNat_natCast, List.getD_eq_getElem?_getD, List.getElem?_eq_getElem hk] at HW2
    have d0 := (HLS.out w1 HW1.out).1
    have HLC := Lib.hid (HLS.out w1 HW1.out).2
    clear hr hxn
    go_wp2_with fail
    refine HLC.out.mono ?_
    rintro o w2 ⟨v, rfl, ho, hb⟩
    have HWb := Lib.hid (HW1.out.below hb)
    have HAb := Lib.hid (HA1.out.below hb)
    have ho2 := ho
    unfold OwnI at ho2
    obtain ⟨gk, ck, hvk, hgk, hgl, hc1, hc2, hck, _⟩ := own_form ho2 (by omega)
    subst hvk
    obtain ⟨nl, hnl⟩ : ∃ nl, nl = (ofK m 1 m.length).length := ⟨_, rfl⟩
    obtain ⟨a, ha⟩ : ∃ a, a = (ofK m 1 m.length)[k] := ⟨_, rfl⟩
    have c0 : w2.cell? ⟨gk, k, none⟩ = some (.int .i64 a) := by
      rw [hck k hk, List.getElem?_map, List.getElem?_eq_getElem hk, ha]
      rfl
    rw [← hnl] at hk ⊢
    have HD := Lib.hid (HDN.out w2 HWb.out a)
    have HWA := Lib.hid (show wy = downW m W seed key a from by rw [HW2, ha]; rfl)
    have p0 : (0 : Int) ≤ k := by omega
    have p1 : (k : Int) < nl := by omega
    rw [← HWA.out] at HD
    clear hb ho ho2 hck hnl ha HW2 d0
    go_wp2_with fail
    refine HD.out.mono ?_
    rintro o w3 ⟨v3, rfl, ho3, hw3, ha3⟩
    have HW3 := Lib.hid hw3
    have HA3 := Lib.hid (HAb.out.trans ha3)
    obtain ⟨A3, c3, hv3⟩ := own_slice ho3
    subst hv3
    obtain ⟨n3, hn3⟩ : ∃ n, n = wy.length := ⟨_, rfl⟩
    by_cases hz : wy = []
    · subst hz
      have HRS := Lib.hid (show res = -1 from by rw [HH.out]; rfl)
      have hn0 : n3 = 0 := by rw [hn3]; rfl
      rw [← hn3, hn0]
      clear ho3 hw3 ha3 hn3
      go_wp2_with fail
      go_ret
      exact ⟨by rw [HRS.out]; rfl, HW3.out, HA3.out⟩
    · have hpos : 0 < wy.length := List.length_pos_iff.mpr hz
      obtain ⟨p, hp⟩ : ∃ p, n3 = p + 1 := ⟨n3 - 1, by omega⟩
      subst hp
      have ho4 := ho3
      unfold OwnI at ho4
      obtain ⟨g4, c4, hv4, hg4, hgl4, hd1, hd2, hc4, _⟩ := own_form ho4 hpos
      injection hv4 with hv1 hv2 hv3
      subst hv1 hv3
      have HRS := Lib.hid (show res = wy[p]'(by omega) from by
        rw [HH.out, List.getLast?_eq_getElem?, show wy.length - 1 = p by omega, List.getElem?_eq_getElem (by omega)]
        rfl)
      have c1 : w3.cell? ⟨g4, p, none⟩ = some (.int .i64 res) := by
        rw [hc4 p (by omega), List.getElem?_map, List.getElem?_eq_getElem (by omega), HRS.out]
        rfl
      rw [← hn3]
      have q0' : (0 : Int) ≤ p := by omega
      have q1' : (p : Int) < (p : Int) + 1 := by omega
      have t2 : (((p : Int) + 1) == 0) = false := beq_false_of_ne (by omega)
      have hdl : p + 1 ≤ c3 := by omega
      have hps : p ≤ 9223372036854775806 := by
        try unfold maxLen at hd2
        omega
      clear ho3 hw3 ha3 hc4 ho4 HRS hd1 hd2 hz hpos
      clear hn3
      go_wp2_with fail
      go_ret
      exact ⟨rfl, HW3.out, HA3.out⟩
end Go.Proofs.YtoaboklckkcjcaaGreat.walkMk
/- Layer 26: the contract of Copies. -/
namespace Go.Proofs.YtoaboklckkcjcaaGreat.walkZb
open Go.ChangeShapes Go.WideShapes Go.ChangeAt Go.RowKit
open Go.Proofs.YtoaboklckkcjcaaGreat.base Go.Proofs.YtoaboklckkcjcaaGreat.dfA Go.Proofs.YtoaboklckkcjcaaGreat.treB Go.Proofs.YtoaboklckkcjcaaGreat.treD Go.Proofs.YtoaboklckkcjcaaGreat.treG Go.Proofs.YtoaboklckkcjcaaGreat.treH Go.Proofs.YtoaboklckkcjcaaGreat.treM Go.Proofs.YtoaboklckkcjcaaGreat.treW Go.Proofs.YtoaboklckkcjcaaGreat.treP Go.Proofs.YtoaboklckkcjcaaGreat.eliW Go.Proofs.YtoaboklckkcjcaaGreat.eliA Go.Proofs.YtoaboklckkcjcaaGreat.eliB Go.Proofs.YtoaboklckkcjcaaGreat.eliK Go.Proofs.YtoaboklckkcjcaaGreat.onceBw Go.Proofs.YtoaboklckkcjcaaGreat.onceCw Go.Proofs.YtoaboklckkcjcaaGreat.walkA Go.Proofs.YtoaboklckkcjcaaGreat.walkB Go.Proofs.YtoaboklckkcjcaaGreat.walkC Go.Proofs.YtoaboklckkcjcaaGreat.walkM Go.Proofs.YtoaboklckkcjcaaGreat.walkBk Go.Proofs.YtoaboklckkcjcaaGreat.walkMk Go.Proofs.YtoaboklckkcjcaaGreat.walkZa
set_option linter.unusedVariables false

/-- Three lists of the call's own, apart from each other. -/
structure Tri (B : Nat) (w : World) (v1 v2 v3 : Value) (l1 l2 l3 : List Int) : Prop where
  o1 : OwnI w B v1 l1
  o2 : OwnI w B v2 l2
  o3 : OwnI w B v3 l3
  d12 : ∀ g, v1.ownBlock = some g → v2.ownBlock ≠ some g
  d13 : ∀ g, v1.ownBlock = some g → v3.ownBlock ≠ some g
  d23 : ∀ g, v2.ownBlock = some g → v3.ownBlock ≠ some g
theorem Tri.nil (B : Nat) (w : World) : Tri B w (.slice none 0 0) (.slice none 0 0) (.slice none 0 0) [] [] [] :=
  ⟨World.ownsRow_nil _ _ _ 1, World.ownsRow_nil _ _ _ 1, World.ownsRow_nil _ _ _ 1, (fun g e => by cases e), (fun g e => by cases e), (fun g e => by cases e)⟩
section
variable {B : Nat} {w w1 w2 : World} {v1 v2 v3 v1' : Value} {l1 l2 l3 : List Int}
theorem Tri.swap (h : Tri B w v1 v2 v3 l1 l2 l3) : Tri B w v2 v1 v3 l2 l1 l3 := ⟨h.o2, h.o1, h.o3, fun g a b => h.d12 g b a, h.d23, h.d13⟩
theorem Tri.rot (h : Tri B w v1 v2 v3 l1 l2 l3) : Tri B w v3 v1 v2 l3 l1 l2 := ⟨h.o3, h.o1, h.o2, fun g a b => h.d13 g b a, fun g a b => h.d23 g b a, h.d12⟩
theorem Tri.below (h : Tri B w v1 v2 v3 l1 l2 l3) (hb : Below w.heap.size w w1) : Tri B w1 v1 v2 v3 l1 l2 l3 := ⟨h.o1.below hb, h.o2.below hb, h.o3.below hb, h.d12, h.d13, h.d23⟩
theorem Tri.far (h : Tri B w v1 v2 v3 l1 l2 l3) (hb : ∀ k, B ≤ k → w1.heap[k]? = w.heap[k]?) : Tri B w1 v1 v2 v3 l1 l2 l3 :=
  ⟨h.o1.far fun k e => hb k (h.o1.lt k e).1, h.o2.far fun k e => hb k (h.o2.lt k e).1, h.o3.far fun k e => hb k (h.o3.lt k e).1, h.d12, h.d13, h.d23⟩
/-- One more in the first. -/
theorem Tri.app {x : Int} (h : Tri B w v1 v2 v3 l1 l2 l3) (hb : Below w.heap.size w w1) (ho : w2.ownsRow B 3 1 v1' (l1.length + 1) (l1.map (Value.int .i64) ++ [.int .i64 x])) (hg : w1.grownBy w2 v1.ownBlock)
    (hn : ∀ g, v1'.ownBlock = some g → v1.ownBlock = some g ∨ w1.heap.size ≤ g) : Tri B w2 v1' v2 v3 (l1 ++ [x]) l2 l3 := by
  have key : ∀ k, k < w.heap.size → v1.ownBlock ≠ some k → w2.heap[k]? = w.heap[k]? := fun k h1 h2 =>
    (hg.block k (Nat.lt_of_lt_of_le h1 hb.size) (fun e => h2 e.symm)).trans (hb.block k h1)
  refine ⟨OwnI.snoc ho, h.o2.far fun k e => key k (h.o2.lt k e).2 (fun e1 => h.d12 k e1 e), h.o3.far fun k e => key k (h.o3.lt k e).2 (fun e1 => h.d13 k e1 e), fun g e1 e2 => ?_, fun g e1 e2 => ?_, h.d23⟩
  · rcases hn g e1 with h1 | h1
    · exact h.d12 g h1 e2
    · have := (h.o2.lt g e2).2; have := hb.size; omega
  · rcases hn g e1 with h1 | h1
    · exact h.d13 g h1 e2
    · have := (h.o3.lt g e2).2; have := hb.size; omega
end
theorem Tri.aside {B g : Nat} {w w1 : World} {v1 v2 v3 : Value} {l1 l2 l3 : List Int} (h : Tri B w v1 v2 v3 l1 l2 l3) (ha : AsideG g w w1) (hB : g < B) : Tri B w1 v1 v2 v3 l1 l2 l3 := ⟨own_aside h.o1 ha hB, own_aside h.o2 ha hB, own_aside h.o3 ha hB, h.d12, h.d13, h.d23⟩
theorem tab_ne {w : World} {g k : Nat} {fac seed : Int} {t : TypeId} {cs : Array Value} (h : Tab g (WT fac seed) w) (hk : Blk w k t cs) (ht : t ≠ 51) : k ≠ g := fun e => by
  subst e
  have key : ∀ c2, Blk w k (WT fac seed).1 c2 → False := fun c2 h2 => by
    have := Option.some.inj (hk.symm.trans h2)
    injection this with h5 h6
    exact ht h6
  rcases h with h | ⟨q, _, h, _⟩
  · exact key _ h
  · exact key _ h
theorem tri_start (w : World) : Tri w.heap.size ((w.alloc (.cells #[] 3)).alloc (.cells #[] 3)) (.slice (some ⟨w.heap.size, 0, none⟩) 0 0) (.slice (some ⟨w.heap.size + 1, 0, none⟩) 0 0) (.slice none 0 0) [] [] [] := by
  have e : (w.alloc (.cells #[] 3)).heap.size = w.heap.size + 1 := by simp
  have h1 : OwnI (w.alloc (.cells #[] 3)) w.heap.size (.slice (some ⟨w.heap.size, 0, none⟩) 0 0) [] := World.ownsRow_made w #[] 0 (Nat.le_refl _) (Nat.zero_le _) rfl
  have h2 : OwnI ((w.alloc (.cells #[] 3)).alloc (.cells #[] 3)) w.heap.size (.slice (some ⟨(w.alloc (.cells #[] 3)).heap.size, 0, none⟩) 0 0) [] := World.ownsRow_made (w.alloc (.cells #[] 3)) #[] 0 (by rw [e]; omega) (Nat.zero_le _) rfl
  rw [e] at h2
  refine ⟨h1.alloc _, h2, World.ownsRow_nil _ _ _ 1, fun g e1 e2 => ?_, fun g e1 e2 => (by cases e2), fun g e1 e2 => (by cases e2)⟩
  injection e1 with e1
  injection e2 with e2
  have e3 : w.heap.size = g := e1
  have e4 : w.heap.size + 1 = g := e2
  omega
set_option maxHeartbeats 16000000 in
set_option maxRecDepth 100000 in
theorem copies_any {z w : World} {g S T q0 : Nat} {fac seed : Int} {m : List Nd} {H : List Int} (hs : SetOk z S T q0 m (F m H)) (h : WSt z g fac seed w) (hm60 : m.length ≤ 60) (f key many kind : Int) (k1 : 1 ≤ kind) (k4 : kind ≤ 4) (n : Nat) (hn : (n : Int) = max (min many 8) 0) :
    Calls Tryz.prog 27 #[.pointer (some ⟨g, 0, none⟩), .pointer (some ⟨S, 0, none⟩), .int .i64 f, .int .u64 key, .int .i64 many, .int .i64 kind] w (DPost z g fac seed (cpS m H seed fac f key kind n).1 w) := by
  obtain ⟨i0, hi0, hz0, hz1, hz2⟩ := info_parts info_i
  have HI0 := Lib.hid hi0
  have HZ0 := Lib.hid hz0
  have HZ1 := Lib.hid hz1
  have HZ2 := Lib.hid hz2
  have HS := Lib.hid (show ∀ V, WSt z g fac seed V → SetOk V S T q0 m (F m H) from fun V hV => hs.below hV.bel)
  have HF := Lib.hid (fine_of hs.tree.good)
  have HV := Lib.hid (heavy_of hs.tree.good)
  have HTZ := Lib.hid hs.tree
  have HW := Lib.hid h
  have HG := Lib.hid h.lt
  have HM60 := Lib.hid hm60
  have HFI := Lib.hid (fun N => walkK.F_in HF.out HV.out hm60 N)
  have HUP := Lib.hid (show ∀ V, WSt z g fac seed V → ∀ i, Calls Tryz.prog 31 #[.pointer (some ⟨T, 0, none⟩), .int .i64 i, .int .i64 kind] V fun o w' => o = .returned (.int .i64 (upF m kind i)) ∧ w' = V from fun V hV i => by
    obtain ⟨A2, c2, K2, kc2, ht2⟩ := (HS.out V hV).tree.at_
    exact up_x ht2 HF.out i kind)
  have HD0 := Lib.hid (show ∀ V, WSt z g fac seed V → V.cell? ⟨S, 0, none⟩ = some (.pointer (some ⟨T, 0, none⟩)) from fun V hV => (HS.out V hV).set.cell 0)
  have HWO := Lib.hid (show ∀ V, WSt z g fac seed V → ∀ (A : Option Addr) (c : Nat) (N : List Int), RdI V A N → N.length ≤ 30 → N.length ≤ c → c ≤ 9223372036854775807 → Calls Tryz.prog 61 #[.pointer (some ⟨S, 0, none⟩), .slice A N.length c] V fun o w' => ∃ g2, o = .returned (.pointer (some ⟨g2 + 1, 0, none⟩)) ∧ SetOk w' (g2 + 1) T g2 m (F m (wout m (F m H) N)) ∧ Below V.heap.size V w' from fun V hV A c N h1 h2 h3 h4 => without_any (HS.out V hV) hm60 A c N h1 h2 h3 h4)
  have HHO := Lib.hid (show ∀ V g2 N, WSt z g fac seed V → SetOk V (g2 + 1) T g2 m (F m N) → Calls Tryz.prog 21 #[.pointer (some ⟨g, 0, none⟩), .pointer (some ⟨g2 + 1, 0, none⟩), .int .i64 f, .int .u64 key] V fun o w' => o = .returned (.int .i64 (hostW m (F m N) seed fac f key)) ∧ WSt z g fac seed w' ∧ AsideG g V w' from fun V g2 N hV hs2 => by
    obtain ⟨cs, h3, _⟩ := hs2.wts
    have e1 := tab_ne hV.tab hs2.set (by decide)
    have e2 := tab_ne hV.tab h3 (by decide)
    refine (host_k (setAl_new hs2 HTZ.out hV.bel hV.hg e1 e2) ⟨hV.tab, AsideG.refl g V⟩ hm60 (HFI.out N) f key).mono ?_
    rintro o w' ⟨x1, x2, x3⟩
    exact ⟨x1, hV.aside x2.tab x3, x3⟩)
  have HCP := Lib.hid (fun j => cpS_inv (H := H) (seed := seed) (fac := fac) (f := f) (key := key) HF.out HV.out k1 k4 j)
  have HNX := Lib.hid (show ∀ k hs ns, cpS m H seed fac f key kind k = (hs, ns) → hostW m (F m (wout m (F m H) ns)) seed fac f key ≠ -1 → ∃ hn d : Nat, hostW m (F m (wout m (F m H) ns)) seed fac f key = (hn : Int) ∧ upF m kind (hn : Int) = (d : Int) ∧ cpS m H seed fac f key kind (k + 1) = (hs ++ [(hn : Int)], ns ++ [(d : Int)]) from fun k hs ns e h => by
    have c := HCP.out k
    rw [e] at c
    obtain ⟨hn, d, e1, _, e2, _⟩ := cp_next HF.out HV.out k1 k4 c seed fac f key h
    refine ⟨hn, d, e1, e2, ?_⟩
    rw [cpS_next e h, e1, e2])
  have HST := Lib.hid (show ∀ k hs ns, k ≤ n → cpS m H seed fac f key kind k = (hs, ns) → hostW m (F m (wout m (F m H) ns)) seed fac f key = -1 → cpS m H seed fac f key kind n = (hs, ns) from fun k hs ns hk e h => by
    have := cpS_stay (kind := kind) (j := k) (by rw [e]; exact h) (n - k)
    rw [show k + (n - k) = n by omega] at this
    rw [this, e])
  obtain ⟨cp, hcp⟩ : ∃ cp, cp = cpS m H seed fac f key kind := ⟨_, rfl⟩
  rw [← hcp] at HCP HNX HST ⊢
  have HC0 := Lib.hid (show cp 0 = ([], []) from by rw [hcp]; rfl)
  obtain ⟨ho, hho⟩ : ∃ ho : List Int → Int, ho = fun ns => hostW m (F m (wout m (F m H) ns)) seed fac f key := ⟨_, rfl⟩
  have HHO2 := Lib.hid (show ∀ V g2 ns, WSt z g fac seed V → SetOk V (g2 + 1) T g2 m (F m (wout m (F m H) ns)) → Calls Tryz.prog 21 #[.pointer (some ⟨g, 0, none⟩), .pointer (some ⟨g2 + 1, 0, none⟩), .int .i64 f, .int .u64 key] V fun o w' => o = .returned (.int .i64 (ho ns)) ∧ WSt z g fac seed w' ∧ AsideG g V w' from fun V g2 ns hV hs2 => by rw [hho]; exact HHO.out V g2 _ hV hs2)
  have HNX2 := Lib.hid (show ∀ k hs ns, cp k = (hs, ns) → ho ns ≠ -1 → ∃ hn d : Nat, ho ns = (hn : Int) ∧ upF m kind (hn : Int) = (d : Int) ∧ cp (k + 1) = (hs ++ [(hn : Int)], ns ++ [(d : Int)]) from by rw [hho]; exact HNX.out)
  have HST2 := Lib.hid (show ∀ k hs ns, k ≤ n → cp k = (hs, ns) → ho ns = -1 → cp n = (hs, ns) from by rw [hho]; exact HST.out)
  have HTR := Lib.hid (tri_start w)
  have HN := Lib.hid hn
  have hn8 : n ≤ 8 := by omega
  clear hi0 hz0 hz1 hz2 hs h hm60 hcp hho hn HHO HNX HST
  go_enter Tryz.func27, Tryz.ntmps27
  go_wp2_with fail
  obtain ⟨w0, hw0⟩ : ∃ w0, w0 = (w.alloc (.cells #[] 3)).alloc (.cells #[] 3) := ⟨_, rfl⟩
  have HB0 := Lib.hid (show Below w.heap.size w w0 from by rw [hw0]; exact ((Below.refl w.heap.size w).alloc (Nat.le_refl _) _).alloc (by simp) _)
  rw [← hw0] at HTR ⊢
  have HW0 := Lib.hid (HW.out.below HB0.out)
  have HA0 := Lib.hid (asideB (g := g) HB0.out)
  clear hw0
  go_loopw [13, 14, 21] (fun v u i wr => ∃ (k : Nat) (hs ns : List Int), i = .int .i64 k ∧ k ≤ n ∧ Hid (hs.length = k) ∧ Hid (cp k = (hs, ns)) ∧ Hid (Tri w.heap.size wr v u (.slice none 0 0) hs ns []) ∧ Hid (WSt z g fac seed wr) ∧ Hid (AsideG g w wr)) (fun _ _ i _ => n - (intOf i).toNat)
  case atStart => exact ⟨0, [], [], rfl, by omega, Lib.hid rfl, HC0, HTR, HW0, HA0⟩
  case round =>
    obtain ⟨k, hs, ns, rfl, hk, HL, HC, HT, HWr, HAr⟩ := hrel
    by_cases hkn : k < n
    · have t1 : decide ((k : Int) < min many 8) = true := decide_eq_true (by have := HN.out; omega)
      have HNL := Lib.hid (show ns.length = k from by
        have c := (HCP.out k).len
        rw [HC.out] at c
        exact c.symm.trans HL.out)
      obtain ⟨Au, cu, hu, q1, q2, q3⟩ := read_own HT.out.o2
      obtain ⟨Av, cv, hv⟩ := own_slice HT.out.o1
      subst hu
      have hv2 := hv
      subst hv2
      have HX := Lib.hid (HWO.out wr HWr.out Au cu ns q3 (by have := HNL.out; omega) q1 q2)
      have HNXk := Lib.hid (HNX2.out k hs ns HC.out)
      have HSTk := Lib.hid (HST2.out k hs ns hk HC.out)
      clear q1 q2 q3
      go_wp2_with fail
      refine HX.out.mono ?_
      rintro o w1 ⟨g2, rfl, hs1, hb1⟩
      have HW1 := Lib.hid (HWr.out.below hb1)
      have HT1 := Lib.hid (HT.out.below hb1)
      have HA1 := Lib.hid (HAr.out.below hb1)
      have HY := Lib.hid (HHO2.out w1 g2 ns HW1.out hs1)
      obtain ⟨x, hx⟩ : ∃ x, x = ho ns := ⟨_, rfl⟩
      rw [← hx] at HY HNXk HSTk
      clear hs1 hb1 hx
      go_wp2_with fail
      refine HY.out.mono ?_
      rintro o w2 ⟨rfl, hw2, ha2⟩
      have HW2 := Lib.hid hw2
      have HT2 := Lib.hid (HT1.out.aside ha2 HG.out)
      have HA2 := Lib.hid (HA1.out.trans ha2)
      clear hw2 ha2
      by_cases hxn : x = -1
      · subst hxn
        have HE := Lib.hid (HSTk.out rfl)
        go_wp2_with fail
        go_ret
        exact ⟨_, rfl, by rw [HE.out]; exact HT2.out.o1, HW2.out, HA2.out⟩
      · obtain ⟨hn, d, ex, ed, ec⟩ := HNXk.out hxn
        subst ex
        have EC := Lib.hid ec
        have t2 : ((hn : Int) == -1) = false := beq_false_of_ne hxn
        have t3 : ((d : Int) != -1) = true := bne_iff_ne.mpr (by omega)
        obtain ⟨kl, hkl⟩ : ∃ kl, kl = hs.length := ⟨_, rfl⟩
        obtain ⟨nl, hnl⟩ : ∃ nl, nl = ns.length := ⟨_, rfl⟩
        have hkl8 : kl ≤ 8 := by rw [hkl, HL.out]; omega
        have hnl8 : nl ≤ 8 := by rw [hnl, HNL.out]; omega
        have BA := Lib.hid ((Below.refl w2.heap.size w2).alloc (Nat.le_refl _) (.cells #[.int .i64 (hn : Int)] 3))
        have HTk := Lib.hid (show Tri w.heap.size w2 (.slice Av kl cv) (.slice Au nl cu) (.slice none 0 0) hs ns [] from by rw [hkl, hnl]; exact HT2.out)
        have TA := Lib.hid (HTk.out.below BA.out)
        have KO2 := Lib.hid (show (w2.alloc (.cells #[.int .i64 (hn : Int)] 3)).ownsRow w.heap.size 3 1 (.slice Av kl cv) kl (hs.map (.int .i64)) from by have h9 := TA.out.o1; unfold OwnI at h9; rw [← hkl] at h9; exact h9)
        have KW2 := Lib.hid (HW2.out.below BA.out)
        have KA2 := Lib.hid (HA2.out.below BA.out)
        have HNE := Lib.hid (show ∀ p u, [Value.int .i64 (hn : Int)][p]? = some u → (w2.alloc (.cells #[.int .i64 (hn : Int)] 3)).cell? ((⟨w2.heap.size, 0, none⟩ : Addr).add p) = some u from fun p u hu => by
          rw [Addr.add_lit, Nat.zero_add, (Blk.new w2 3 #[.int .i64 (hn : Int)]).cell p]
          have h2 : (#[Value.int .i64 (hn : Int)])[p]? = some u := by simpa using hu
          exact h2)
        have H1 := Lib.hid (show ∀ u ∈ [Value.int .i64 (hn : Int)], u.oneCell' = true from fun u hu => by simp at hu; subst hu; rfl)
        have P1 := Lib.hid (show kl + 1 ≤ maxLen by unfold maxLen; omega)
        have P2 := Lib.hid (show (kl + 1) * 8 ≤ 140737488355328 by omega)
        have P3 := Lib.hid (show w.heap.size ≤ (w2.alloc (.cells #[.int .i64 (hn : Int)] 3)).heap.size from KA2.out.size)
        have HKL := Lib.hid hkl
        have HNLL := Lib.hid hnl
        rw [← hkl, ← hnl]
        clear hxn ec hkl hnl
        go_wp2_with (at_builtin; refine wpList_append_new _ rfl (.tmp 32) (.tmp 34) _ rfl w.heap.size 3 i0 _ 1 8 Tryz.underlying23 HI0.out HZ0.out HZ1.out HZ2.out rfl (by omega) (.slice Av kl cv) kl (hs.map (Value.int .i64)) rfl KO2.out ⟨w2.heap.size, 0, none⟩ 1 1 [.int .i64 (hn : Int)] rfl (by omega) rfl HNE.out H1.out P1.out P2.out P3.out ?_; intro v6 w6 ho6 hg6 hn6; rw [HKL.out] at ho6; have HT6 := Lib.hid ((HTk.out.app BA.out ho6 hg6 hn6).swap); have HW6 := Lib.hid (wst_grown KW2.out TA.out.o1 HG.out hg6); have HA6 := Lib.hid (aside_grown KA2.out hg6 (fun q e => (TA.out.o1.lt q e).1)); have d6 := HD0.out w6 HW6.out; have HUP6 := Lib.hid (HUP.out w6 HW6.out (hn : Int)); rw [ed] at HUP6; clear ho6 hg6 hn6)
        refine HUP6.out.mono ?_
        rintro o w7 ⟨rfl, rfl⟩
        have BA7 := Lib.hid ((Below.refl w7.heap.size w7).alloc (Nat.le_refl _) (.cells #[.int .i64 (d : Int)] 3))
        have TA7 := Lib.hid (HT6.out.below BA7.out)
        have KO7 := Lib.hid (show (w7.alloc (.cells #[.int .i64 (d : Int)] 3)).ownsRow w.heap.size 3 1 (.slice Au nl cu) nl (ns.map (.int .i64)) from by have h9 := TA7.out.o1; unfold OwnI at h9; rw [← HNLL.out] at h9; exact h9)
        have KW7 := Lib.hid (HW6.out.below BA7.out)
        have KA7 := Lib.hid (HA6.out.below BA7.out)
        have HNE7 := Lib.hid (show ∀ p u, [Value.int .i64 (d : Int)][p]? = some u → (w7.alloc (.cells #[.int .i64 (d : Int)] 3)).cell? ((⟨w7.heap.size, 0, none⟩ : Addr).add p) = some u from fun p u hu => by
          rw [Addr.add_lit, Nat.zero_add, (Blk.new w7 3 #[.int .i64 (d : Int)]).cell p]
          have h2 : (#[Value.int .i64 (d : Int)])[p]? = some u := by simpa using hu
          exact h2)
        have H17 := Lib.hid (show ∀ u ∈ [Value.int .i64 (d : Int)], u.oneCell' = true from fun u hu => by simp at hu; subst hu; rfl)
        have P17 := Lib.hid (show nl + 1 ≤ maxLen by unfold maxLen; omega)
        have P27 := Lib.hid (show (nl + 1) * 8 ≤ 140737488355328 by omega)
        have P37 := Lib.hid (show w.heap.size ≤ (w7.alloc (.cells #[.int .i64 (d : Int)] 3)).heap.size from KA7.out.size)
        clear d6
        go_wp2_with (at_builtin; refine wpList_append_new _ rfl (.tmp 45) (.tmp 47) _ rfl w.heap.size 3 i0 _ 1 8 Tryz.underlying23 HI0.out HZ0.out HZ1.out HZ2.out rfl (by omega) (.slice Au nl cu) nl (ns.map (Value.int .i64)) rfl KO7.out ⟨w7.heap.size, 0, none⟩ 1 1 [.int .i64 (d : Int)] rfl (by omega) rfl HNE7.out H17.out P17.out P27.out P37.out ?_; intro v8 w8 ho8 hg8 hn8'; rw [HNLL.out] at ho8; have HT8 := Lib.hid ((HT6.out.app BA7.out ho8 hg8 hn8').swap); have HW8 := Lib.hid (wst_grown KW7.out TA7.out.o1 HG.out hg8); have HA8 := Lib.hid (aside_grown KA7.out hg8 (fun q e => (TA7.out.o1.lt q e).1)); clear ho8 hg8 hn8')
        go_roundw
        case rel => exact ⟨k + 1, hs ++ [(hn : Int)], ns ++ [(d : Int)], by go_num, by omega, Lib.hid (by rw [List.length_append, HL.out]; rfl), EC, HT8, HW8, HA8⟩
        case measure => simp [intOf]; omega
    · have t1 : decide ((k : Int) < min many 8) = false := decide_eq_false (by have := HN.out; omega)
      have hkn2 : k = n := by omega
      have HE := Lib.hid (show cp n = (hs, ns) from by rw [← hkn2]; exact HC.out)
      obtain ⟨Av, cv, hv⟩ := own_slice HT.out.o1
      subst hv
      clear hkn2
      go_wp2_with fail
      go_ret
      exact ⟨_, rfl, by rw [HE.out]; exact HT.out.o1, HWr.out, HAr.out⟩
end Go.Proofs.YtoaboklckkcjcaaGreat.walkZb
