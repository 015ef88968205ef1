/- Layer 25: which item is picked. -/
import Derived.Test.YtanijccpbleekaaStrC
namespace Go.Proofs.Ytanijccpbleekaa.strD
open Go.ChangeShapes Go.WideShapes Go.ChangeAt Go.RowKit
open Go.Proofs.Ytanijccpbleekaa.base Go.Proofs.Ytanijccpbleekaa.onceB Go.Proofs.Ytanijccpbleekaa.onceC Go.Proofs.Ytanijccpbleekaa.wideC Go.Proofs.Ytanijccpbleekaa.wideF Go.Proofs.Ytanijccpbleekaa.wideG Go.Proofs.Ytanijccpbleekaa.wideH Go.Proofs.Ytanijccpbleekaa.wideI Go.Proofs.Ytanijccpbleekaa.strA Go.Proofs.Ytanijccpbleekaa.strB Go.Proofs.Ytanijccpbleekaa.strC
set_option linter.unusedVariables false

/-- The straw that is the shortest so far. -/
def Short (key : Int) (l : List (Int × Int)) (o : Option Nat) (su sd : Int) : Prop := match o with
  | none => su = 0 ∧ sd = 0
  | some j => su = lenZ key (l.getD j (0, 0)).1 ∧ sd = (l.getD j (0, 0)).2
theorem pick_nil (key : Int) (v : Value) (w : World) : Calls Try.prog 12 #[.pointer none, .int .u64 key, v] w fun e w' => e = .returned (.int .i64 (-1)) ∧ w = w' := by
  go_enter Try.func12, Try.ntmps12
  go_wp2
  go_ret
  exact ⟨rfl, rfl⟩
theorem row2_at {w : World} {B b off : Nat} {l : List (Int × Int)} (h : Row2 w B (some ⟨b, off, none⟩) l) (i : Nat) (hi : i < l.length) : w.cell? ⟨b, off + i * 2, none⟩ = some (.int .u64 (l.getD i (0, 0)).1) ∧ w.cell? ⟨b, off + i * 2 + 1, none⟩ = some (.int .u64 (l.getD i (0, 0)).2) := by
  obtain ⟨b', off', hA, _, hc⟩ := h.at_ (by omega)
  injection hA with hA
  injection hA with h1 h2
  subst h1 h2
  exact hc i hi
def PickPost (g : Nat) (T : TypeId) (x : Int) (w : World) (e : Ending) (w' : World) : Prop := e = .returned (.int .i64 x) ∧ Tab g T w' ∧ Aside g w w'
set_option maxRecDepth 100000 in
set_option maxHeartbeats 8000000 in
theorem pick_any (g : Nat) (T : TypeId) (key : Int) (A : Option Addr) (n c : Nat) (l : List (Int × Int)) (w : World) (ht : Tab g T w) (hl : l.length = n) (hn : n ≤ 1000) (hg : ∀ i, good (l.getD i (0, 0))) (hr : ∀ w', Aside g w w' → Row2 w' w'.heap.size A l) :
    Calls Try.prog 12 #[.pointer (some ⟨g, 0, none⟩), .int .u64 key, .slice A n c] w (PickPost g T (plc (pk key l n)) w) := by
  have HR := Lib.hid hr
  have HL := Lib.hid hl
  have HGD := Lib.hid hg
  have HG := Lib.hid (tab_lt ht)
  have hW : Below w.heap.size w (w.alloc (.cells #[.int .u64 0, .int .u64 0] 52)) := (Below.refl w.heap.size w).alloc (Nat.le_refl _) _
  have HT0 := Lib.hid (tab_below ht hW)
  have HA0 := Lib.hid ((Aside.refl g w).below hW)
  have HB0 := Lib.hid (Blk.new w 52 #[.int .u64 0, .int .u64 0])
  clear hr hl hg ht hW
  go_enter Try.func12, Try.ntmps12
  go_wp2_with fail
  go_loopw [7, 18] (fun a i wr => ∃ k : Nat, k ≤ n ∧ i = .int .i64 k ∧ a = .int .i64 (plc (pk key l k)) ∧ Tab g T wr ∧ Aside g w wr ∧ ∃ su sd, Blk wr w.heap.size 52 #[.int .u64 su, .int .u64 sd] ∧ Short key l (pk key l k) su sd) (fun _ i _ => n - (intOf i).toNat)
  case atStart => exact ⟨0, by omega, rfl, rfl, HT0.out, HA0.out, 0, 0, HB0.out, rfl, rfl⟩
  case round =>
    obtain ⟨k, hk, rfl, rfl, htb, has, su, sd, hbs, hsh⟩ := hrel
    have KT := Lib.hid htb
    have KA := Lib.hid has
    have KB := Lib.hid hbs
    have KS := Lib.hid hsh
    clear htb has hbs hsh
    by_cases hlt : k < n
    · obtain ⟨b, off, hA, hbl, hc⟩ := (HR.out wr KA.out).at_ (by rw [HL.out]; omega)
      subst hA
      have hk0 := (hc k (by rw [HL.out]; exact hlt)).1
      have hk1 := (hc k (by rw [HL.out]; exact hlt)).2
      have hp : pk key l (k + 1) = if 0 < (l.getD k (0, 0)).2 then (match pk key l k with
        | none => some k
        | some j => if shB key (l.getD k (0, 0)) (l.getD j (0, 0)) = true then some k else some j) else pk key l k := rfl
      have hgk := HGD.out k
      have j0 : (0 : Int) ≤ (k : Int) := by omega
      have jk : (k : Int) < (n : Int) := by omega
      have hsb : ∀ j, pk key l k = some j → shB key (l.getD k (0, 0)) (l.getD j (0, 0)) = (decide (cmpI (lenZ key (l.getD k (0, 0)).1 * (l.getD j (0, 0)).2) (lenZ key (l.getD j (0, 0)).1 * (l.getD k (0, 0)).2) < 0) || (cmpI (lenZ key (l.getD k (0, 0)).1 * (l.getD j (0, 0)).2) (lenZ key (l.getD j (0, 0)).1 * (l.getD k (0, 0)).2) == 0 && decide ((l.getD k (0, 0)).1 < (l.getD j (0, 0)).1))) := fun j _ => rfl
      have HPL := Lib.hid (pk_lt key l k)
      have HSB := Lib.hid hsb
      have HSK := Lib.hid (show ∀ y xd, y = lenZ key (l.getD k (0, 0)).1 → xd = (l.getD k (0, 0)).2 → Short key l (some k) y xd from fun y xd h1 h2 => ⟨h1, h2⟩)
      clear hc hsb
      by_cases hw : 0 < (l.getD k (0, 0)).2
      · rw [if_pos hw] at hp
        obtain ⟨y, hy⟩ : ∃ y, y = lenZ key (l.getD k (0, 0)).1 := ⟨_, rfl⟩
        have hyb := lenZ_in key (l.getD k (0, 0)).1
        rw [← hy] at hyb
        obtain ⟨⟨x0, x1⟩, x2, x3⟩ := hgk
        have t2 : ((l.getD k (0, 0)).2 == 0) = false := beq_eq_false_iff_ne.mpr (by omega)
        have HP0 := Lib.hid hp
        have HY := Lib.hid hy
        have HSH := Lib.hid (HSK.out y (l.getD k (0, 0)).2 hy rfl)
        have hba : Below wr.heap.size wr (wr.alloc (.cells #[.int .u64 (l.getD k (0, 0)).1, .int .u64 (l.getD k (0, 0)).2] 44)) := (Below.refl wr.heap.size wr).alloc (Nat.le_refl _) _
        have HLG := Lib.hid (long_any g T key (l.getD k (0, 0)).1 (l.getD k (0, 0)).2 (wr.alloc (.cells #[.int .u64 (l.getD k (0, 0)).1, .int .u64 (l.getD k (0, 0)).2] 44)) (tab_below KT.out hba))
        rw [← hy] at HLG
        have HAW := Lib.hid (KA.out.below hba)
        have HBW := Lib.hid (KB.out.alloc (.cells #[.int .u64 (l.getD k (0, 0)).1, .int .u64 (l.getD k (0, 0)).2] 44))
        have HXB := Lib.hid (Blk.new wr 44 #[.int .u64 (l.getD k (0, 0)).1, .int .u64 (l.getD k (0, 0)).2])
        have HRK := Lib.hid (HR.out)
        have HWR := Lib.hid KA.out.size
        obtain ⟨xu, hxu⟩ : ∃ xu, xu = (l.getD k (0, 0)).1 := ⟨_, rfl⟩
        obtain ⟨xd, hxd⟩ : ∃ xd, xd = (l.getD k (0, 0)).2 := ⟨_, rfl⟩
        rw [← hxu] at hk0 HLG HAW HBW HXB x0 x1
        rw [← hxd] at hk1 HLG HAW HBW HXB x2 x3 t2 HSH hw
        have HXU := Lib.hid hxu
        have HXD := Lib.hid hxd
        clear hp hy hba hxu hxd
        go_wp2_with fail
        refine HLG.out.mono ?_
        rintro e w3 ⟨rfl, ht3, ha3⟩
        have k3 := ha3.blk HBW.out (show w.heap.size ≠ g by have := HG.out; omega)
        have kx := ha3.blk HXB.out (show wr.heap.size ≠ g by have := HG.out; have := HWR.out; omega)
        have hb4 : Below w3.heap.size w3 (w3.alloc (.cells #[.int .u64 y, .int .u64 xd] 52)) := (Below.refl w3.heap.size w3).alloc (Nat.le_refl _) _
        have HA4 := Lib.hid ((HAW.out.trans ha3).below hb4)
        have HT4 := Lib.hid (tab_below ht3 hb4)
        have k4 := k3.alloc (.cells #[.int .u64 y, .int .u64 xd] 52)
        have kx4 := kx.alloc (.cells #[.int .u64 y, .int .u64 xd] 52)
        have kl4 := Blk.new w3 52 #[.int .u64 y, .int .u64 xd]
        have HQ := Lib.hid (show w.heap.size < w3.heap.size by have := HWR.out; have := ha3.size; simp at this; omega)
        have HXQ := Lib.hid (show wr.heap.size < w3.heap.size by have := ha3.size; simp at this; omega)
        obtain ⟨q, hq⟩ : ∃ q, q = w3.heap.size := ⟨_, rfl⟩
        obtain ⟨w4, hw4⟩ : ∃ w4, w4 = w3.alloc (.cells #[.int .u64 y, .int .u64 xd] 52) := ⟨_, rfl⟩
        rw [← hw4] at HA4 HT4 k4 kx4 kl4
        rw [← hq] at HQ HXQ kl4
        have HW4 := Lib.hid hw4
        have HQE := Lib.hid hq
        have KB4 := Lib.hid k4
        have KX4 := Lib.hid kx4
        have KL4 := Lib.hid kl4
        have sb : 0 ≤ su ∧ su < 18446744073709551616 ∧ 0 ≤ sd ∧ sd < 18446744073709551616 := by
          cases hm : pk key l k with
          | none =>
            have := KS.out
            rw [hm] at this
            obtain ⟨h1, h2⟩ := this
            omega
          | some j =>
            have := KS.out
            rw [hm] at this
            obtain ⟨h1, h2⟩ := this
            have h3 := lenZ_in key (l.getD j (0, 0)).1
            have h4 := HGD.out j
            rw [h1, h2]
            exact ⟨h3.1, h3.2, h4.2.1, h4.2.2⟩
        have HCM := Lib.hid (fun W => fracCmp_any y xd su sd hyb.1 hyb.2 x2 x3 sb.1 sb.2.1 sb.2.2.1 sb.2.2.2 W)
        have cx0 : (w3.alloc (.cells #[.int .u64 y, .int .u64 xd] 52)).cell? ⟨w3.heap.size, 0, none⟩ = some (.int .u64 y) := (Blk.new w3 52 #[.int .u64 y, .int .u64 xd]).cell 0
        have cx1 : (w3.alloc (.cells #[.int .u64 y, .int .u64 xd] 52)).cell? ⟨w3.heap.size, 1, none⟩ = some (.int .u64 xd) := (Blk.new w3 52 #[.int .u64 y, .int .u64 xd]).cell 1
        have cs0 : (w3.alloc (.cells #[.int .u64 y, .int .u64 xd] 52)).cell? ⟨w.heap.size, 0, none⟩ = some (.int .u64 su) := hw4 ▸ k4.cell 0
        have cs1 : (w3.alloc (.cells #[.int .u64 y, .int .u64 xd] 52)).cell? ⟨w.heap.size, 1, none⟩ = some (.int .u64 sd) := hw4 ▸ k4.cell 1
        have cz0 : w3.cell? ⟨wr.heap.size, 0, none⟩ = some (.int .u64 xu) := kx.cell 0
        have cz1 : w3.cell? ⟨wr.heap.size, 1, none⟩ = some (.int .u64 xd) := kx.cell 1
        clear ht3 ha3 k3 kx hb4 k4 kx4 kl4 hw4 hq sb hyb hk0 hk1 hbl
        go_wp2_with fail
        rw [← HW4.out, ← HQE.out]
        refine (HCM.out _).mono ?_
        rintro e w5 ⟨rfl, hb5⟩
        have HB5 := Lib.hid (KB4.out.below hb5 KB4.out.lt)
        have HL5 := Lib.hid (KL4.out.below hb5 KL4.out.lt)
        have HX5 := Lib.hid (KX4.out.below hb5 KX4.out.lt)
        have HT5 := Lib.hid (tab_below HT4.out hb5)
        have HA5 := Lib.hid (HA4.out.below hb5)
        clear hb5 cx0 cx1 cs0 cs1 cz0 cz1 HCM
        cases hm : pk key l k with
        | none =>
          have HP := Lib.hid (show pk key l (k + 1) = some k by rw [HP0.out, hm])
          have HSH2 := Lib.hid (show Short key l (pk key l (k + 1)) y xd by rw [HP.out]; exact HSH.out)
          clear HSH
          have HSH := HSH2
          clear HSH2 hm hw t2 HSB HSK HPL
          generalize cmpF y xd su sd = z at *
          rw [show plc none = -1 from rfl]
          go_wp2_with fail
          go_quiet (fail)
          obtain ⟨w6, hw6⟩ : ∃ w6, w6 = w5.drewN nq := ⟨_, rfl⟩
          rw [← hw6]
          have KB6 := Lib.hid (show Blk w6 w.heap.size 52 #[.int .u64 su, .int .u64 sd] from hw6 ▸ HB5.out)
          have KL6 := Lib.hid (show Blk w6 q 52 #[.int .u64 y, .int .u64 xd] from hw6 ▸ HL5.out)
          have HT6 := Lib.hid (show Tab g T w6 from hw6 ▸ HT5.out)
          have HA6 := Lib.hid (show Aside g w w6 from hw6 ▸ onceC.asideN HA5.out nq)
          clear hw6
          go_wp2_with fail
          have m0 : w6.drew.cell? ⟨q, 0, none⟩ = some (.int .u64 y) ∧ w6.drew.cell? ⟨q, 1, none⟩ = some (.int .u64 xd) := ⟨KL6.out.cell 0, KL6.out.cell 1⟩
          have d0 : w6.drew.cell? ⟨w.heap.size, 0, none⟩ = some (.int .u64 su) := KB6.out.cell 0
          have d1 : w6.drew.cell? ⟨w.heap.size, 1, none⟩ = some (.int .u64 sd) := KB6.out.cell 1
          have f0 : w6.drew.frozen? ⟨w.heap.size, 0, none⟩ = false := KB6.out.frozen 0
          have f1 : w6.drew.frozen? ⟨w.heap.size, 1, none⟩ = false := KB6.out.frozen 1
          have d2 : w6.cell? ⟨w.heap.size, 0, none⟩ = some (.int .u64 su) := KB6.out.cell 0
          have d3 : w6.cell? ⟨w.heap.size, 1, none⟩ = some (.int .u64 sd) := KB6.out.cell 1
          have f2 : w6.frozen? ⟨w.heap.size, 0, none⟩ = false := KB6.out.frozen 0
          have f3 : w6.frozen? ⟨w.heap.size, 1, none⟩ = false := KB6.out.frozen 1
          have K7 : Blk ((w6.setCell ⟨w.heap.size, 0, none⟩ (.int .u64 y)).setCell ⟨w.heap.size, 1, none⟩ (.int .u64 xd)).drew q 52 #[.int .u64 y, .int .u64 xd] := ((KL6.out.far (by have := HQ.out; simp; omega) _).far (by have := HQ.out; simp; omega) _).drew
          have m1 : ((w6.setCell ⟨w.heap.size, 0, none⟩ (.int .u64 y)).setCell ⟨w.heap.size, 1, none⟩ (.int .u64 xd)).drew.cell? ⟨q, 0, none⟩ = some (.int .u64 y) ∧ ((w6.setCell ⟨w.heap.size, 0, none⟩ (.int .u64 y)).setCell ⟨w.heap.size, 1, none⟩ (.int .u64 xd)).drew.cell? ⟨q, 1, none⟩ = some (.int .u64 xd) := ⟨K7.cell 0, K7.cell 1⟩
          have HB7 := Lib.hid (show Blk ((w6.setCell ⟨w.heap.size, 0, none⟩ (.int .u64 y)).setCell ⟨w.heap.size, 1, none⟩ (.int .u64 xd)).drew w.heap.size 52 #[.int .u64 y, .int .u64 xd] from ((KB6.out.set_ 0 _).set_ 1 _).drew)
          have HT7 := Lib.hid (show Tab g T ((w6.setCell ⟨w.heap.size, 0, none⟩ (.int .u64 y)).setCell ⟨w.heap.size, 1, none⟩ (.int .u64 xd)).drew from tab_far (tab_far HT6.out KB6.out (by show (2 : Nat) ≠ 65536; omega) (by have := HG.out; omega) 0 (.int .u64 y)) (KB6.out.set_ 0 _) (by simp) (by have := HG.out; omega) 1 (.int .u64 xd))
          have HA7 := Lib.hid (((HA6.out.new ⟨w.heap.size, 0, none⟩ (by simp) (.int .u64 y)).new ⟨w.heap.size, 1, none⟩ (by simp) (.int .u64 xd)).drew)
          clear K7
          go_region_held3 (fun w' => w'.cell? ⟨q, 0, none⟩ = some (.int .u64 y) ∧ w'.cell? ⟨q, 1, none⟩ = some (.int .u64 xd)) (first | with_reducible assumption) (first | fail)
          clear m0 m1 d0 d1 d2 d3 f0 f1 f2 f3
          go_wp2_with fail
          go_roundw
          case rel => exact ⟨k + 1, by omega, by go_num, by rw [HP.out]; rfl, HT7.out, HA7.out, y, xd, HB7.out, HSH.out⟩
          case measure => simp [intOf]; omega
        | some j =>
          have hj := (HPL.out j hm)
          have hks := KS.out
          rw [hm] at hks
          obtain ⟨hsu, hsd⟩ := hks
          have hz : cmpF y xd su sd = cmpI (y * sd) (su * xd) := by
            unfold cmpF
            rw [if_neg (by rw [hsd]; omega)]
          have hsb := HSB.out j hm
          rw [← HXU.out, ← HXD.out, ← hsd, ← hsu, HXU.out, ← HY.out, ← hz, ← HXU.out] at hsb
          have hp1 : pk key l (k + 1) = if shB key (l.getD k (0, 0)) (l.getD j (0, 0)) = true then some k else some j := by rw [HP0.out, hm]
          rw [hsb] at hp1
          have c1 := row2_at (HR.out w5 HA5.out) j (by rw [HL.out]; omega)
          have i0 : w5.cell? ⟨b, off + j * 2, none⟩ = some (.int .u64 (l.getD j (0, 0)).1) := c1.1
          have i1 : w5.cell? ⟨wr.heap.size, 0, none⟩ = some (.int .u64 xu) := HX5.out.cell 0
          have t3 : ((j : Int) == -1) = false := beq_eq_false_iff_ne.mpr (by omega)
          have jj0 : (0 : Int) ≤ (j : Int) := by omega
          have jj : (j : Int) < (n : Int) := by omega
          have HPN := Lib.hid hp1
          have HSO0 := Lib.hid (show Short key l (some j) su sd from ⟨hsu, hsd⟩)
          clear hj hsu hsd hz hsb hp1 c1 hm t2 HSB HSK HPL
          generalize cmpF y xd su sd = z at *
          generalize (l.getD j (0, 0)).1 = yu at *
          rw [show plc (some j) = (j : Int) from rfl]
          rcases Int.lt_trichotomy z 0 with hz | hz | hz
          · have f1 : decide (z < 0) = true := decide_eq_true hz
            have HP := Lib.hid (show pk key l (k + 1) = some k by rw [HPN.out, f1]; rfl)
            have HSH2 := Lib.hid (show Short key l (pk key l (k + 1)) y xd by rw [HP.out]; exact HSH.out)
            clear HSH hz hw
            have HSH := HSH2
            clear HSH2
            go_wp2_with fail
            go_quiet (fail)
            obtain ⟨w6, hw6⟩ : ∃ w6, w6 = w5.drewN nq := ⟨_, rfl⟩
            rw [← hw6]
            have KB6 := Lib.hid (show Blk w6 w.heap.size 52 #[.int .u64 su, .int .u64 sd] from hw6 ▸ HB5.out)
            have KL6 := Lib.hid (show Blk w6 q 52 #[.int .u64 y, .int .u64 xd] from hw6 ▸ HL5.out)
            have HT6 := Lib.hid (show Tab g T w6 from hw6 ▸ HT5.out)
            have HA6 := Lib.hid (show Aside g w w6 from hw6 ▸ onceC.asideN HA5.out nq)
            clear hw6 i0 i1 t3 f1
            go_wp2_with fail
            have m0 : w6.drew.cell? ⟨q, 0, none⟩ = some (.int .u64 y) ∧ w6.drew.cell? ⟨q, 1, none⟩ = some (.int .u64 xd) := ⟨KL6.out.cell 0, KL6.out.cell 1⟩
            have d0 : w6.drew.cell? ⟨w.heap.size, 0, none⟩ = some (.int .u64 su) := KB6.out.cell 0
            have d1 : w6.drew.cell? ⟨w.heap.size, 1, none⟩ = some (.int .u64 sd) := KB6.out.cell 1
            have f0 : w6.drew.frozen? ⟨w.heap.size, 0, none⟩ = false := KB6.out.frozen 0
            have f9 : w6.drew.frozen? ⟨w.heap.size, 1, none⟩ = false := KB6.out.frozen 1
            have d2 : w6.cell? ⟨w.heap.size, 0, none⟩ = some (.int .u64 su) := KB6.out.cell 0
            have d3 : w6.cell? ⟨w.heap.size, 1, none⟩ = some (.int .u64 sd) := KB6.out.cell 1
            have f2 : w6.frozen? ⟨w.heap.size, 0, none⟩ = false := KB6.out.frozen 0
            have f3 : w6.frozen? ⟨w.heap.size, 1, none⟩ = false := KB6.out.frozen 1
            have K7 : Blk ((w6.setCell ⟨w.heap.size, 0, none⟩ (.int .u64 y)).setCell ⟨w.heap.size, 1, none⟩ (.int .u64 xd)).drew q 52 #[.int .u64 y, .int .u64 xd] := ((KL6.out.far (by have := HQ.out; simp; omega) _).far (by have := HQ.out; simp; omega) _).drew
            have m1 : ((w6.setCell ⟨w.heap.size, 0, none⟩ (.int .u64 y)).setCell ⟨w.heap.size, 1, none⟩ (.int .u64 xd)).drew.cell? ⟨q, 0, none⟩ = some (.int .u64 y) ∧ ((w6.setCell ⟨w.heap.size, 0, none⟩ (.int .u64 y)).setCell ⟨w.heap.size, 1, none⟩ (.int .u64 xd)).drew.cell? ⟨q, 1, none⟩ = some (.int .u64 xd) := ⟨K7.cell 0, K7.cell 1⟩
            have HB7 := Lib.hid (show Blk ((w6.setCell ⟨w.heap.size, 0, none⟩ (.int .u64 y)).setCell ⟨w.heap.size, 1, none⟩ (.int .u64 xd)).drew w.heap.size 52 #[.int .u64 y, .int .u64 xd] from ((KB6.out.set_ 0 _).set_ 1 _).drew)
            have HT7 := Lib.hid (show Tab g T ((w6.setCell ⟨w.heap.size, 0, none⟩ (.int .u64 y)).setCell ⟨w.heap.size, 1, none⟩ (.int .u64 xd)).drew from tab_far (tab_far HT6.out KB6.out (by show (2 : Nat) ≠ 65536; omega) (by have := HG.out; omega) 0 (.int .u64 y)) (KB6.out.set_ 0 _) (by simp) (by have := HG.out; omega) 1 (.int .u64 xd))
            have HA7 := Lib.hid (((HA6.out.new ⟨w.heap.size, 0, none⟩ (by simp) (.int .u64 y)).new ⟨w.heap.size, 1, none⟩ (by simp) (.int .u64 xd)).drew)
            clear K7
            go_region_held3 (fun w' => w'.cell? ⟨q, 0, none⟩ = some (.int .u64 y) ∧ w'.cell? ⟨q, 1, none⟩ = some (.int .u64 xd)) (first | with_reducible assumption) (first | fail)
            clear m0 m1 d0 d1 d2 d3 f0 f9 f2 f3
            go_wp2_with fail
            go_roundw
            case rel => exact ⟨k + 1, by omega, by go_num, by rw [HP.out]; rfl, HT7.out, HA7.out, y, xd, HB7.out, HSH.out⟩
            case measure => simp [intOf]; omega
          · subst hz
            by_cases hl : xu < yu
            · have f2 : decide (xu < yu) = true := decide_eq_true hl
              have HP := Lib.hid (show pk key l (k + 1) = some k by rw [HPN.out, f2]; rfl)
              have HSH2 := Lib.hid (show Short key l (pk key l (k + 1)) y xd by rw [HP.out]; exact HSH.out)
              clear HSH hl hw
              have HSH := HSH2
              clear HSH2
              go_wp2_with fail
              go_quiet (fail)
              obtain ⟨w6, hw6⟩ : ∃ w6, w6 = w5.drewN nq := ⟨_, rfl⟩
              rw [← hw6]
              have KB6 := Lib.hid (show Blk w6 w.heap.size 52 #[.int .u64 su, .int .u64 sd] from hw6 ▸ HB5.out)
              have KL6 := Lib.hid (show Blk w6 q 52 #[.int .u64 y, .int .u64 xd] from hw6 ▸ HL5.out)
              have HT6 := Lib.hid (show Tab g T w6 from hw6 ▸ HT5.out)
              have HA6 := Lib.hid (show Aside g w w6 from hw6 ▸ onceC.asideN HA5.out nq)
              clear hw6 i0 i1 t3 f2
              go_wp2_with fail
              have m0 : w6.drew.cell? ⟨q, 0, none⟩ = some (.int .u64 y) ∧ w6.drew.cell? ⟨q, 1, none⟩ = some (.int .u64 xd) := ⟨KL6.out.cell 0, KL6.out.cell 1⟩
              have d0 : w6.drew.cell? ⟨w.heap.size, 0, none⟩ = some (.int .u64 su) := KB6.out.cell 0
              have d1 : w6.drew.cell? ⟨w.heap.size, 1, none⟩ = some (.int .u64 sd) := KB6.out.cell 1
              have f0 : w6.drew.frozen? ⟨w.heap.size, 0, none⟩ = false := KB6.out.frozen 0
              have f1 : w6.drew.frozen? ⟨w.heap.size, 1, none⟩ = false := KB6.out.frozen 1
              have d2 : w6.cell? ⟨w.heap.size, 0, none⟩ = some (.int .u64 su) := KB6.out.cell 0
              have d3 : w6.cell? ⟨w.heap.size, 1, none⟩ = some (.int .u64 sd) := KB6.out.cell 1
              have f2 : w6.frozen? ⟨w.heap.size, 0, none⟩ = false := KB6.out.frozen 0
              have f3 : w6.frozen? ⟨w.heap.size, 1, none⟩ = false := KB6.out.frozen 1
              have K7 : Blk ((w6.setCell ⟨w.heap.size, 0, none⟩ (.int .u64 y)).setCell ⟨w.heap.size, 1, none⟩ (.int .u64 xd)).drew q 52 #[.int .u64 y, .int .u64 xd] := ((KL6.out.far (by have := HQ.out; simp; omega) _).far (by have := HQ.out; simp; omega) _).drew
              have m1 : ((w6.setCell ⟨w.heap.size, 0, none⟩ (.int .u64 y)).setCell ⟨w.heap.size, 1, none⟩ (.int .u64 xd)).drew.cell? ⟨q, 0, none⟩ = some (.int .u64 y) ∧ ((w6.setCell ⟨w.heap.size, 0, none⟩ (.int .u64 y)).setCell ⟨w.heap.size, 1, none⟩ (.int .u64 xd)).drew.cell? ⟨q, 1, none⟩ = some (.int .u64 xd) := ⟨K7.cell 0, K7.cell 1⟩
              have HB7 := Lib.hid (show Blk ((w6.setCell ⟨w.heap.size, 0, none⟩ (.int .u64 y)).setCell ⟨w.heap.size, 1, none⟩ (.int .u64 xd)).drew w.heap.size 52 #[.int .u64 y, .int .u64 xd] from ((KB6.out.set_ 0 _).set_ 1 _).drew)
              have HT7 := Lib.hid (show Tab g T ((w6.setCell ⟨w.heap.size, 0, none⟩ (.int .u64 y)).setCell ⟨w.heap.size, 1, none⟩ (.int .u64 xd)).drew from tab_far (tab_far HT6.out KB6.out (by show (2 : Nat) ≠ 65536; omega) (by have := HG.out; omega) 0 (.int .u64 y)) (KB6.out.set_ 0 _) (by simp) (by have := HG.out; omega) 1 (.int .u64 xd))
              have HA7 := Lib.hid (((HA6.out.new ⟨w.heap.size, 0, none⟩ (by simp) (.int .u64 y)).new ⟨w.heap.size, 1, none⟩ (by simp) (.int .u64 xd)).drew)
              clear K7
              go_region_held3 (fun w' => w'.cell? ⟨q, 0, none⟩ = some (.int .u64 y) ∧ w'.cell? ⟨q, 1, none⟩ = some (.int .u64 xd)) (first | with_reducible assumption) (first | fail)
              clear m0 m1 d0 d1 d2 d3 f0 f1 f2 f3
              go_wp2_with fail
              go_roundw
              case rel => exact ⟨k + 1, by omega, by go_num, by rw [HP.out]; rfl, HT7.out, HA7.out, y, xd, HB7.out, HSH.out⟩
              case measure => simp [intOf]; omega
            · have f2 : decide (xu < yu) = false := decide_eq_false hl
              have HP := Lib.hid (show pk key l (k + 1) = some j by rw [HPN.out, f2]; rfl)
              have HSO := Lib.hid (show Short key l (pk key l (k + 1)) su sd by rw [HP.out]; exact HSO0.out)
              clear hl hw
              go_wp2_with fail
              go_quiet (fail)
              clear i0 i1 t3 f2
              go_wp2_with fail
              go_roundw
              case rel => exact ⟨k + 1, by omega, by go_num, by rw [HP.out]; rfl, HT5.out, onceC.asideN HA5.out _, su, sd, HB5.out, HSO.out⟩
              case measure => simp [intOf]; omega
          · have f1 : decide (z < 0) = false := decide_eq_false (by omega)
            have f3 : (z == 0) = false := beq_eq_false_iff_ne.mpr (by omega)
            have HP := Lib.hid (show pk key l (k + 1) = some j by rw [HPN.out, f1, f3]; rfl)
            have HSO := Lib.hid (show Short key l (pk key l (k + 1)) su sd by rw [HP.out]; exact HSO0.out)
            clear hz hw
            go_wp2_with fail
            go_quiet (fail)
            clear i0 i1 t3 f1 f3
            go_wp2_with fail
            go_roundw
            case rel => exact ⟨k + 1, by omega, by go_num, by rw [HP.out]; rfl, HT5.out, onceC.asideN HA5.out _, su, sd, HB5.out, HSO.out⟩
            case measure => simp [intOf]; omega
      · rw [if_neg hw] at hp
        have t2 : ((l.getD k (0, 0)).2 == 0) = true := beq_iff_eq.mpr (by have := hgk.2.1; omega)
        have HP := Lib.hid hp
        have HKB2 := Lib.hid (KB.out.alloc (.cells #[.int .u64 (l.getD k (0, 0)).1, .int .u64 (l.getD k (0, 0)).2] 44))
        have hba : Below wr.heap.size wr (wr.alloc (.cells #[.int .u64 (l.getD k (0, 0)).1, .int .u64 (l.getD k (0, 0)).2] 44)) := (Below.refl wr.heap.size wr).alloc (Nat.le_refl _) _
        have HTB := Lib.hid (tab_below KT.out hba)
        have HAB := Lib.hid (KA.out.below hba)
        clear hp hw hgk HSB HSK HPL hba
        generalize pk key l k = o at *
        generalize l.getD k (0, 0) = x at *
        obtain ⟨xu, xd⟩ := x
        simp only at hk0 hk1 t2
        go_wp2_with fail
        go_roundw
        case rel => exact ⟨k + 1, by omega, by go_num, by rw [HP.out], HTB.out, HAB.out, su, sd, HKB2.out, by rw [HP.out]; exact KS.out⟩
        case measure => simp [intOf]; omega
    · have hkn : n = k := by omega
      subst hkn
      have HP := Lib.hid (show PickPost g T (plc (pk key l n)) w (.returned (.int .i64 (plc (pk key l n)))) wr from ⟨rfl, KT.out, KA.out⟩)
      go_wp2_with fail
      go_ret
      exact HP.out
end Go.Proofs.Ytanijccpbleekaa.strD
