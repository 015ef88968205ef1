/- 6 texts in one. -/
import Derived.Lib.SmallJoins
import Derived.Deep.Slices
import Derived.Deep.Fields
import Derived.Test.YtoaboklckkcjcaaGreatPk01
import Derived.Test.YtoaboklckkcjcaaGreatPk02
import Derived.Test.YtoaboklckkcjcaaGreatPk03
/- Layer 25: which item is picked. -/
namespace Go.Proofs.YtoaboklckkcjcaaGreat.strDw
open Go.ChangeShapes Go.WideShapes Go.ChangeAt Go.RowKit
open Go.Proofs.YtoaboklckkcjcaaGreat.base Go.Proofs.YtoaboklckkcjcaaGreat.onceBw Go.Proofs.YtoaboklckkcjcaaGreat.onceCw Go.Proofs.YtoaboklckkcjcaaGreat.wideC Go.Proofs.YtoaboklckkcjcaaGreat.wideF Go.Proofs.YtoaboklckkcjcaaGreat.wideG Go.Proofs.YtoaboklckkcjcaaGreat.wideH Go.Proofs.YtoaboklckkcjcaaGreat.wideI Go.Proofs.YtoaboklckkcjcaaGreat.strA Go.Proofs.YtoaboklckkcjcaaGreat.strB Go.Proofs.YtoaboklckkcjcaaGreat.strCw
set_option linter.unusedVariables false

/-- The straw that is the shortest so far. -/
def Short (key : Int) (l : List (Int × Int)) (o : Option Nat) (su sd : Int) : Prop := match o with
  | none => su = 0 ∧ sd = 0
  | some j => su = lenZ key (l.getD j (0, 0)).1 ∧ sd = (l.getD j (0, 0)).2
theorem pick_nil (key : Int) (v : Value) (w : World) : Calls Tryz.prog 45 #[.pointer none, .int .u64 key, v] w fun e w' => e = .returned (.int .i64 (-1)) ∧ w = w' := by
  go_enter Tryz.func45, Tryz.ntmps45
  go_wp2
  go_ret
  exact ⟨rfl, rfl⟩
theorem row2_at {w : World} {B b off : Nat} {l : List (Int × Int)} (h : Row2 w B (some ⟨b, off, none⟩) l) (i : Nat) (hi : i < l.length) : w.cell? ⟨b, off + i * 2, none⟩ = some (.int .u64 (l.getD i (0, 0)).1) ∧ w.cell? ⟨b, off + i * 2 + 1, none⟩ = some (.int .u64 (l.getD i (0, 0)).2) := by
  obtain ⟨b', off', hA, _, hc⟩ := h.at_ (by omega)
  injection hA with hA
  injection hA with h1 h2
  subst h1 h2
  exact hc i hi
def PickPost (g : Nat) (T : TypeId × List Value) (x : Int) (w : World) (e : Ending) (w' : World) : Prop := e = .returned (.int .i64 x) ∧ Tab g T w' ∧ AsideG g w w'
set_option maxRecDepth 100000 in
set_option maxHeartbeats 8000000 in
theorem pick_any (g : Nat) (T : TypeId × List Value) (key : Int) (A : Option Addr) (n c : Nat) (l : List (Int × Int)) (w : World) (ht : Tab g T w) (hl : l.length = n) (hn : n ≤ 1000) (hg : ∀ i, good (l.getD i (0, 0))) (hr : ∀ w', AsideG g w w' → Row2 w' w'.heap.size A l) :
    Calls Tryz.prog 45 #[.pointer (some ⟨g, 0, none⟩), .int .u64 key, .slice A n c] w (PickPost g T (plc (pk key l n)) w) := by
  have HR := Lib.hid hr
  have HL := Lib.hid hl
  have HGD := Lib.hid hg
  have HG := Lib.hid (tab_lt ht)
  have hW : Below w.heap.size w (w.alloc (.cells #[.int .u64 0, .int .u64 0] 126)) := (Below.refl w.heap.size w).alloc (Nat.le_refl _) _
  have HT0 := Lib.hid (tab_below ht hW)
  have HA0 := Lib.hid ((AsideG.refl g w).below hW)
  have HB0 := Lib.hid (Blk.new w 126 #[.int .u64 0, .int .u64 0])
  clear hr hl hg ht hW
  go_enter Tryz.func45, Tryz.ntmps45
  go_wp2_with fail
  go_loopw [7, 18] (fun a i wr => ∃ k : Nat, k ≤ n ∧ i = .int .i64 k ∧ a = .int .i64 (plc (pk key l k)) ∧ Tab g T wr ∧ AsideG g w wr ∧ ∃ su sd, Blk wr w.heap.size 126 #[.int .u64 su, .int .u64 sd] ∧ Short key l (pk key l k) su sd) (fun _ i _ => n - (intOf i).toNat)
  case atStart => exact ⟨0, by omega, rfl, rfl, HT0.out, HA0.out, 0, 0, HB0.out, rfl, rfl⟩
  case round =>
    obtain ⟨k, hk, rfl, rfl, htb, has, su, sd, hbs, hsh⟩ := hrel
    have KT := Lib.hid htb
    have KA := Lib.hid has
    have KB := Lib.hid hbs
    have KS := Lib.hid hsh
    clear htb has hbs hsh
    by_cases hlt : k < n
    · obtain ⟨b, off, hA, hbl, hc⟩ := (HR.out wr KA.out).at_ (by rw [HL.out]; omega)
      subst hA
      have hk0 := (hc k (by rw [HL.out]; exact hlt)).1
      have hk1 := (hc k (by rw [HL.out]; exact hlt)).2
      have hp : pk key l (k + 1) = if 0 < (l.getD k (0, 0)).2 then (match pk key l k with
        | none => some k
        | some j => if shB key (l.getD k (0, 0)) (l.getD j (0, 0)) = true then some k else some j) else pk key l k := rfl
      have hgk := HGD.out k
      have j0 : (0 : Int) ≤ (k : Int) := by omega
      have jk : (k : Int) < (n : Int) := by omega
      have hsb : ∀ j, pk key l k = some j → shB key (l.getD k (0, 0)) (l.getD j (0, 0)) = (decide (cmpI (lenZ key (l.getD k (0, 0)).1 * (l.getD j (0, 0)).2) (lenZ key (l.getD j (0, 0)).1 * (l.getD k (0, 0)).2) < 0) || (cmpI (lenZ key (l.getD k (0, 0)).1 * (l.getD j (0, 0)).2) (lenZ key (l.getD j (0, 0)).1 * (l.getD k (0, 0)).2) == 0 && decide ((l.getD k (0, 0)).1 < (l.getD j (0, 0)).1))) := fun j _ => rfl
      have HPL := Lib.hid (pk_lt key l k)
      have HSB := Lib.hid hsb
      have HSK := Lib.hid (show ∀ y xd, y = lenZ key (l.getD k (0, 0)).1 → xd = (l.getD k (0, 0)).2 → Short key l (some k) y xd from fun y xd h1 h2 => ⟨h1, h2⟩)
      clear hc hsb
      by_cases hw : 0 < (l.getD k (0, 0)).2
      · rw [if_pos hw] at hp
        obtain ⟨y, hy⟩ : ∃ y, y = lenZ key (l.getD k (0, 0)).1 := ⟨_, rfl⟩
        have hyb := lenZ_in key (l.getD k (0, 0)).1
        rw [← hy] at hyb
        obtain ⟨⟨x0, x1⟩, x2, x3⟩ := hgk
        have t2 : ((l.getD k (0, 0)).2 == 0) = false := beq_eq_false_iff_ne.mpr (by omega)
        have HP0 := Lib.hid hp
        have HY := Lib.hid hy
        have HSH := Lib.hid (HSK.out y (l.getD k (0, 0)).2 hy rfl)
        have hba : Below wr.heap.size wr (wr.alloc (.cells #[.int .u64 (l.getD k (0, 0)).1, .int .u64 (l.getD k (0, 0)).2] 97)) := (Below.refl wr.heap.size wr).alloc (Nat.le_refl _) _
        have HLG := Lib.hid (long_any g T key (l.getD k (0, 0)).1 (l.getD k (0, 0)).2 (wr.alloc (.cells #[.int .u64 (l.getD k (0, 0)).1, .int .u64 (l.getD k (0, 0)).2] 97)) (tab_below KT.out hba))
        rw [← hy] at HLG
        have HAW := Lib.hid (KA.out.below hba)
        have HBW := Lib.hid (KB.out.alloc (.cells #[.int .u64 (l.getD k (0, 0)).1, .int .u64 (l.getD k (0, 0)).2] 97))
        have HXB := Lib.hid (Blk.new wr 97 #[.int .u64 (l.getD k (0, 0)).1, .int .u64 (l.getD k (0, 0)).2])
        have HRK := Lib.hid (HR.out)
        have HWR := Lib.hid KA.out.size
        obtain ⟨xu, hxu⟩ : ∃ xu, xu = (l.getD k (0, 0)).1 := ⟨_, rfl⟩
        obtain ⟨xd, hxd⟩ : ∃ xd, xd = (l.getD k (0, 0)).2 := ⟨_, rfl⟩
        rw [← hxu] at hk0 HLG HAW HBW HXB x0 x1
        rw [← hxd] at hk1 HLG HAW HBW HXB x2 x3 t2 HSH hw
        have HXU := Lib.hid hxu
        have HXD := Lib.hid hxd
        clear hp hy hba hxu hxd
        go_wp2_with fail
        refine HLG.out.mono ?_
        rintro e w3 ⟨rfl, ht3, ha3⟩
        have k3 := ha3.blk HBW.out (show w.heap.size ≠ g by have := HG.out; omega)
        have kx := ha3.blk HXB.out (show wr.heap.size ≠ g by have := HG.out; have := HWR.out; omega)
        have hb4 : Below w3.heap.size w3 (w3.alloc (.cells #[.int .u64 y, .int .u64 xd] 126)) := (Below.refl w3.heap.size w3).alloc (Nat.le_refl _) _
        have HA4 := Lib.hid ((HAW.out.trans ha3).below hb4)
        have HT4 := Lib.hid (tab_below ht3 hb4)
        have k4 := k3.alloc (.cells #[.int .u64 y, .int .u64 xd] 126)
        have kx4 := kx.alloc (.cells #[.int .u64 y, .int .u64 xd] 126)
        have kl4 := Blk.new w3 126 #[.int .u64 y, .int .u64 xd]
        have HQ := Lib.hid (show w.heap.size < w3.heap.size by have := HWR.out; have := ha3.size; simp at this; omega)
        have HXQ := Lib.hid (show wr.heap.size < w3.heap.size by have := ha3.size; simp at this; omega)
        obtain ⟨q, hq⟩ : ∃ q, q = w3.heap.size := ⟨_, rfl⟩
        obtain ⟨w4, hw4⟩ : ∃ w4, w4 = w3.alloc (.cells #[.int .u64 y, .int .u64 xd] 126) := ⟨_, rfl⟩
        rw [← hw4] at HA4 HT4 k4 kx4 kl4
        rw [← hq] at HQ HXQ kl4
        have HW4 := Lib.hid hw4
        have HQE := Lib.hid hq
        have KB4 := Lib.hid k4
        have KX4 := Lib.hid kx4
        have KL4 := Lib.hid kl4
        have sb : 0 ≤ su ∧ su < 18446744073709551616 ∧ 0 ≤ sd ∧ sd < 18446744073709551616 := by
          cases hm : pk key l k with
          | none =>
            have := KS.out
            rw [hm] at this
            obtain ⟨h1, h2⟩ := this
            omega
          | some j =>
            have := KS.out
            rw [hm] at this
            obtain ⟨h1, h2⟩ := this
            have h3 := lenZ_in key (l.getD j (0, 0)).1
            have h4 := HGD.out j
            rw [h1, h2]
            exact ⟨h3.1, h3.2, h4.2.1, h4.2.2⟩
        have HCM := Lib.hid (fun W => fracCmp_any y xd su sd hyb.1 hyb.2 x2 x3 sb.1 sb.2.1 sb.2.2.1 sb.2.2.2 W)
        have cx0 : (w3.alloc (.cells #[.int .u64 y, .int .u64 xd] 126)).cell? ⟨w3.heap.size, 0, none⟩ = some (.int .u64 y) := (Blk.new w3 126 #[.int .u64 y, .int .u64 xd]).cell 0
        have cx1 : (w3.alloc (.cells #[.int .u64 y, .int .u64 xd] 126)).cell? ⟨w3.heap.size, 1, none⟩ = some (.int .u64 xd) := (Blk.new w3 126 #[.int .u64 y, .int .u64 xd]).cell 1
        have cs0 : (w3.alloc (.cells #[.int .u64 y, .int .u64 xd] 126)).cell? ⟨w.heap.size, 0, none⟩ = some (.int .u64 su) := hw4 ▸ k4.cell 0
        have cs1 : (w3.alloc (.cells #[.int .u64 y, .int .u64 xd] 126)).cell? ⟨w.heap.size, 1, none⟩ = some (.int .u64 sd) := hw4 ▸ k4.cell 1
        have cz0 : w3.cell? ⟨wr.heap.size, 0, none⟩ = some (.int .u64 xu) := kx.cell 0
        have cz1 : w3.cell? ⟨wr.heap.size, 1, none⟩ = some (.int .u64 xd) := kx.cell 1
        clear ht3 ha3 k3 kx hb4 k4 kx4 kl4 hw4 hq sb hyb hk0 hk1 hbl
        go_wp2_with fail
        rw [← HW4.out, ← HQE.out]
        refine (HCM.out _).mono ?_
        rintro e w5 ⟨rfl, hb5⟩
        have HB5 := Lib.hid (KB4.out.below hb5 KB4.out.lt)
        have HL5 := Lib.hid (KL4.out.below hb5 KL4.out.lt)
        have HX5 := Lib.hid (KX4.out.below hb5 KX4.out.lt)
        have HT5 := Lib.hid (tab_below HT4.out hb5)
        have HA5 := Lib.hid (HA4.out.below hb5)
        clear hb5 cx0 cx1 cs0 cs1 cz0 cz1 HCM
        cases hm : pk key l k with
        | none =>
          have HP := Lib.hid (show pk key l (k + 1) = some k by rw [HP0.out, hm])
          have HSH2 := Lib.hid (show Short key l (pk key l (k + 1)) y xd by rw [HP.out]; exact HSH.out)
          clear HSH
          have HSH := HSH2
          clear HSH2 hm hw t2 HSB HSK HPL
          generalize cmpF y xd su sd = z at *
          rw [show plc none = -1 from rfl]
          go_wp2_with fail
          go_quiet (fail)
          obtain ⟨w6, hw6⟩ : ∃ w6, w6 = w5.drewN nq := ⟨_, rfl⟩
          rw [← hw6]
          have KB6 := Lib.hid (show Blk w6 w.heap.size 126 #[.int .u64 su, .int .u64 sd] from hw6 ▸ HB5.out)
          have KL6 := Lib.hid (show Blk w6 q 126 #[.int .u64 y, .int .u64 xd] from hw6 ▸ HL5.out)
          have HT6 := Lib.hid (show Tab g T w6 from hw6 ▸ HT5.out)
          have HA6 := Lib.hid (show AsideG g w w6 from hw6 ▸ onceCw.asideN HA5.out nq)
          clear hw6
          go_wp2_with fail
          have m0 : w6.drew.cell? ⟨q, 0, none⟩ = some (.int .u64 y) ∧ w6.drew.cell? ⟨q, 1, none⟩ = some (.int .u64 xd) := ⟨KL6.out.cell 0, KL6.out.cell 1⟩
          have d0 : w6.drew.cell? ⟨w.heap.size, 0, none⟩ = some (.int .u64 su) := KB6.out.cell 0
          have d1 : w6.drew.cell? ⟨w.heap.size, 1, none⟩ = some (.int .u64 sd) := KB6.out.cell 1
          have f0 : w6.drew.frozen? ⟨w.heap.size, 0, none⟩ = false := KB6.out.frozen 0
          have f1 : w6.drew.frozen? ⟨w.heap.size, 1, none⟩ = false := KB6.out.frozen 1
          have d2 : w6.cell? ⟨w.heap.size, 0, none⟩ = some (.int .u64 su) := KB6.out.cell 0
          have d3 : w6.cell? ⟨w.heap.size, 1, none⟩ = some (.int .u64 sd) := KB6.out.cell 1
          have f2 : w6.frozen? ⟨w.heap.size, 0, none⟩ = false := KB6.out.frozen 0
          have f3 : w6.frozen? ⟨w.heap.size, 1, none⟩ = false := KB6.out.frozen 1
          have K7 : Blk ((w6.setCell ⟨w.heap.size, 0, none⟩ (.int .u64 y)).setCell ⟨w.heap.size, 1, none⟩ (.int .u64 xd)).drew q 126 #[.int .u64 y, .int .u64 xd] := ((KL6.out.far (by have := HQ.out; simp; omega) _).far (by have := HQ.out; simp; omega) _).drew
          have m1 : ((w6.setCell ⟨w.heap.size, 0, none⟩ (.int .u64 y)).setCell ⟨w.heap.size, 1, none⟩ (.int .u64 xd)).drew.cell? ⟨q, 0, none⟩ = some (.int .u64 y) ∧ ((w6.setCell ⟨w.heap.size, 0, none⟩ (.int .u64 y)).setCell ⟨w.heap.size, 1, none⟩ (.int .u64 xd)).drew.cell? ⟨q, 1, none⟩ = some (.int .u64 xd) := ⟨K7.cell 0, K7.cell 1⟩
          have HB7 := Lib.hid (show Blk ((w6.setCell ⟨w.heap.size, 0, none⟩ (.int .u64 y)).setCell ⟨w.heap.size, 1, none⟩ (.int .u64 xd)).drew w.heap.size 126 #[.int .u64 y, .int .u64 xd] from ((KB6.out.set_ 0 _).set_ 1 _).drew)
          have HT7 := Lib.hid (show Tab g T ((w6.setCell ⟨w.heap.size, 0, none⟩ (.int .u64 y)).setCell ⟨w.heap.size, 1, none⟩ (.int .u64 xd)).drew from tab_far (tab_far HT6.out KB6.out (by show (2 : Nat) ≠ 65536; omega) (by have := HG.out; omega) 0 (.int .u64 y)) (KB6.out.set_ 0 _) (by simp) (by have := HG.out; omega) 1 (.int .u64 xd))
          have HA7 := Lib.hid (((HA6.out.new ⟨w.heap.size, 0, none⟩ (by simp) (.int .u64 y)).new ⟨w.heap.size, 1, none⟩ (by simp) (.int .u64 xd)).drew)
          clear K7
          go_region_held3 (fun w' => w'.cell? ⟨q, 0, none⟩ = some (.int .u64 y) ∧ w'.cell? ⟨q, 1, none⟩ = some (.int .u64 xd)) (first | with_reducible assumption) (first | fail)
          clear m0 m1 d0 d1 d2 d3 f0 f1 f2 f3
          go_wp2_with fail
          go_roundw
          case rel => exact ⟨k + 1, by omega, by go_num, by rw [HP.out]; rfl, HT7.out, HA7.out, y, xd, HB7.out, HSH.out⟩
          case measure => simp [intOf]; omega
        | some j =>
          have hj := (HPL.out j hm)
          have hks := KS.out
          rw [hm] at hks
          obtain ⟨hsu, hsd⟩ := hks
          have hz : cmpF y xd su sd = cmpI (y * sd) (su * xd) := by
            unfold cmpF
            rw [if_neg (by rw [hsd]; omega)]
          have hsb := HSB.out j hm
          rw [← HXU.out, ← HXD.out, ← hsd, ← hsu, HXU.out, ← HY.out, ← hz, ← HXU.out] at hsb
          have hp1 : pk key l (k + 1) = if shB key (l.getD k (0, 0)) (l.getD j (0, 0)) = true then some k else some j := by rw [HP0.out, hm]
          rw [hsb] at hp1
          have c1 := row2_at (HR.out w5 HA5.out) j (by rw [HL.out]; omega)
          have i0 : w5.cell? ⟨b, off + j * 2, none⟩ = some (.int .u64 (l.getD j (0, 0)).1) := c1.1
          have i1 : w5.cell? ⟨wr.heap.size, 0, none⟩ = some (.int .u64 xu) := HX5.out.cell 0
          have t3 : ((j : Int) == -1) = false := beq_eq_false_iff_ne.mpr (by omega)
          have jj0 : (0 : Int) ≤ (j : Int) := by omega
          have jj : (j : Int) < (n : Int) := by omega
          have HPN := Lib.hid hp1
          have HSO0 := Lib.hid (show Short key l (some j) su sd from ⟨hsu, hsd⟩)
          clear hj hsu hsd hz hsb hp1 c1 hm t2 HSB HSK HPL
          generalize cmpF y xd su sd = z at *
          generalize (l.getD j (0, 0)).1 = yu at *
          rw [show plc (some j) = (j : Int) from rfl]
          rcases Int.lt_trichotomy z 0 with hz | hz | hz
          · have f1 : decide (z < 0) = true := decide_eq_true hz
            have HP := Lib.hid (show pk key l (k + 1) = some k by rw [HPN.out, f1]; rfl)
            have HSH2 := Lib.hid (show Short key l (pk key l (k + 1)) y xd by rw [HP.out]; exact HSH.out)
            clear HSH hz hw
            have HSH := HSH2
            clear HSH2
            go_wp2_with fail
            go_quiet (fail)
            obtain ⟨w6, hw6⟩ : ∃ w6, w6 = w5.drewN nq := ⟨_, rfl⟩
            rw [← hw6]
            have KB6 := Lib.hid (show Blk w6 w.heap.size 126 #[.int .u64 su, .int .u64 sd] from hw6 ▸ HB5.out)
            have KL6 := Lib.hid (show Blk w6 q 126 #[.int .u64 y, .int .u64 xd] from hw6 ▸ HL5.out)
            have HT6 := Lib.hid (show Tab g T w6 from hw6 ▸ HT5.out)
            have HA6 := Lib.hid (show AsideG g w w6 from hw6 ▸ onceCw.asideN HA5.out nq)
            clear hw6 i0 i1 t3 f1
            go_wp2_with fail
            have m0 : w6.drew.cell? ⟨q, 0, none⟩ = some (.int .u64 y) ∧ w6.drew.cell? ⟨q, 1, none⟩ = some (.int .u64 xd) := ⟨KL6.out.cell 0, KL6.out.cell 1⟩
            have d0 : w6.drew.cell? ⟨w.heap.size, 0, none⟩ = some (.int .u64 su) := KB6.out.cell 0
            have d1 : w6.drew.cell? ⟨w.heap.size, 1, none⟩ = some (.int .u64 sd) := KB6.out.cell 1
            have f0 : w6.drew.frozen? ⟨w.heap.size, 0, none⟩ = false := KB6.out.frozen 0
            have f9 : w6.drew.frozen? ⟨w.heap.size, 1, none⟩ = false := KB6.out.frozen 1
            have d2 : w6.cell? ⟨w.heap.size, 0, none⟩ = some (.int .u64 su) := KB6.out.cell 0
            have d3 : w6.cell? ⟨w.heap.size, 1, none⟩ = some (.int .u64 sd) := KB6.out.cell 1
            have f2 : w6.frozen? ⟨w.heap.size, 0, none⟩ = false := KB6.out.frozen 0
            have f3 : w6.frozen? ⟨w.heap.size, 1, none⟩ = false := KB6.out.frozen 1
            have K7 : Blk ((w6.setCell ⟨w.heap.size, 0, none⟩ (.int .u64 y)).setCell ⟨w.heap.size, 1, none⟩ (.int .u64 xd)).drew q 126 #[.int .u64 y, .int .u64 xd] := ((KL6.out.far (by have := HQ.out; simp; omega) _).far (by have := HQ.out; simp; omega) _).drew
            have m1 : ((w6.setCell ⟨w.heap.size, 0, none⟩ (.int .u64 y)).setCell ⟨w.heap.size, 1, none⟩ (.int .u64 xd)).drew.cell? ⟨q, 0, none⟩ = some (.int .u64 y) ∧ ((w6.setCell ⟨w.heap.size, 0, none⟩ (.int .u64 y)).setCell ⟨w.heap.size, 1, none⟩ (.int .u64 xd)).drew.cell? ⟨q, 1, none⟩ = some (.int .u64 xd) := ⟨K7.cell 0, K7.cell 1⟩
            have HB7 := Lib.hid (show Blk ((w6.setCell ⟨w.heap.size, 0, none⟩ (.int .u64 y)).setCell ⟨w.heap.size, 1, none⟩ (.int .u64 xd)).drew w.heap.size 126 #[.int .u64 y, .int .u64 xd] from ((KB6.out.set_ 0 _).set_ 1 _).drew)
            have HT7 := Lib.hid (show Tab g T ((w6.setCell ⟨w.heap.size, 0, none⟩ (.int .u64 y)).setCell ⟨w.heap.size, 1, none⟩ (.int .u64 xd)).drew from tab_far (tab_far HT6.out KB6.out (by show (2 : Nat) ≠ 65536; omega) (by have := HG.out; omega) 0 (.int .u64 y)) (KB6.out.set_ 0 _) (by simp) (by have := HG.out; omega) 1 (.int .u64 xd))
            have HA7 := Lib.hid (((HA6.out.new ⟨w.heap.size, 0, none⟩ (by simp) (.int .u64 y)).new ⟨w.heap.size, 1, none⟩ (by simp) (.int .u64 xd)).drew)
            clear K7
            go_region_held3 (fun w' => w'.cell? ⟨q, 0, none⟩ = some (.int .u64 y) ∧ w'.cell? ⟨q, 1, none⟩ = some (.int .u64 xd)) (first | with_reducible assumption) (first | fail)
            clear m0 m1 d0 d1 d2 d3 f0 f9 f2 f3
            go_wp2_with fail
            go_roundw
            case rel => exact ⟨k + 1, by omega, by go_num, by rw [HP.out]; rfl, HT7.out, HA7.out, y, xd, HB7.out, HSH.out⟩
            case measure => simp [intOf]; omega
          · subst hz
            by_cases hl : xu < yu
            · have f2 : decide (xu < yu) = true := decide_eq_true hl
              have HP := Lib.hid (show pk key l (k + 1) = some k by rw [HPN.out, f2]; rfl)
              have HSH2 := Lib.hid (show Short key l (pk key l (k + 1)) y xd by rw [HP.out]; exact HSH.out)
              clear HSH hl hw
              have HSH := HSH2
              clear HSH2
              go_wp2_with fail
              go_quiet (fail)
              obtain ⟨w6, hw6⟩ : ∃ w6, w6 = w5.drewN nq := ⟨_, rfl⟩
              rw [← hw6]
              have KB6 := Lib.hid (show Blk w6 w.heap.size 126 #[.int .u64 su, .int .u64 sd] from hw6 ▸ HB5.out)
              have KL6 := Lib.hid (show Blk w6 q 126 #[.int .u64 y, .int .u64 xd] from hw6 ▸ HL5.out)
              have HT6 := Lib.hid (show Tab g T w6 from hw6 ▸ HT5.out)
              have HA6 := Lib.hid (show AsideG g w w6 from hw6 ▸ onceCw.asideN HA5.out nq)
              clear hw6 i0 i1 t3 f2
              go_wp2_with fail
              have m0 : w6.drew.cell? ⟨q, 0, none⟩ = some (.int .u64 y) ∧ w6.drew.cell? ⟨q, 1, none⟩ = some (.int .u64 xd) := ⟨KL6.out.cell 0, KL6.out.cell 1⟩
              have d0 : w6.drew.cell? ⟨w.heap.size, 0, none⟩ = some (.int .u64 su) := KB6.out.cell 0
              have d1 : w6.drew.cell? ⟨w.heap.size, 1, none⟩ = some (.int .u64 sd) := KB6.out.cell 1
              have f0 : w6.drew.frozen? ⟨w.heap.size, 0, none⟩ = false := KB6.out.frozen 0
              have f1 : w6.drew.frozen? ⟨w.heap.size, 1, none⟩ = false := KB6.out.frozen 1
              have d2 : w6.cell? ⟨w.heap.size, 0, none⟩ = some (.int .u64 su) := KB6.out.cell 0
              have d3 : w6.cell? ⟨w.heap.size, 1, none⟩ = some (.int .u64 sd) := KB6.out.cell 1
              have f2 : w6.frozen? ⟨w.heap.size, 0, none⟩ = false := KB6.out.frozen 0
              have f3 : w6.frozen? ⟨w.heap.size, 1, none⟩ = false := KB6.out.frozen 1
              have K7 : Blk ((w6.setCell ⟨w.heap.size, 0, none⟩ (.int .u64 y)).setCell ⟨w.heap.size, 1, none⟩ (.int .u64 xd)).drew q 126 #[.int .u64 y, .int .u64 xd] := ((KL6.out.far (by have := HQ.out; simp; omega) _).far (by have := HQ.out; simp; omega) _).drew
              have m1 : ((w6.setCell ⟨w.heap.size, 0, none⟩ (.int .u64 y)).setCell ⟨w.heap.size, 1, none⟩ (.int .u64 xd)).drew.cell? ⟨q, 0, none⟩ = some (.int .u64 y) ∧ ((w6.setCell ⟨w.heap.size, 0, none⟩ (.int .u64 y)).setCell ⟨w.heap.size, 1, none⟩ (.int .u64 xd)).drew.cell? ⟨q, 1, none⟩ = some (.int .u64 xd) := ⟨K7.cell 0, K7.cell 1⟩
              have HB7 := Lib.hid (show Blk ((w6.setCell ⟨w.heap.size, 0, none⟩ (.int .u64 y)).setCell ⟨w.heap.size, 1, none⟩ (.int .u64 xd)).drew w.heap.size 126 #[.int .u64 y, .int .u64 xd] from ((KB6.out.set_ 0 _).set_ 1 _).drew)
              have HT7 := Lib.hid (show Tab g T ((w6.setCell ⟨w.heap.size, 0, none⟩ (.int .u64 y)).setCell ⟨w.heap.size, 1, none⟩ (.int .u64 xd)).drew from tab_far (tab_far HT6.out KB6.out (by show (2 : Nat) ≠ 65536; omega) (by have := HG.out; omega) 0 (.int .u64 y)) (KB6.out.set_ 0 _) (by simp) (by have := HG.out; omega) 1 (.int .u64 xd))
              have HA7 := Lib.hid (((HA6.out.new ⟨w.heap.size, 0, none⟩ (by simp) (.int .u64 y)).new ⟨w.heap.size, 1, none⟩ (by simp) (.int .u64 xd)).drew)
              clear K7
              go_region_held3 (fun w' => w'.cell? ⟨q, 0, none⟩ = some (.int .u64 y) ∧ w'.cell? ⟨q, 1, none⟩ = some (.int .u64 xd)) (first | with_reducible assumption) (first | fail)
              clear m0 m1 d0 d1 d2 d3 f0 f1 f2 f3
              go_wp2_with fail
              go_roundw
              case rel => exact ⟨k + 1, by omega, by go_num, by rw [HP.out]; rfl, HT7.out, HA7.out, y, xd, HB7.out, HSH.out⟩
              case measure => simp [intOf]; omega
            · have f2 : decide (xu < yu) = false := decide_eq_false hl
              have HP := Lib.hid (show pk key l (k + 1) = some j by rw [HPN.out, f2]; rfl)
              have HSO := Lib.hid (show Short key l (pk key l (k + 1)) su sd by rw [HP.out]; exact HSO0.out)
              clear hl hw
              go_wp2_with fail
              go_quiet (fail)
              clear i0 i1 t3 f2
              go_wp2_with fail
              go_roundw
              case rel => exact ⟨k + 1, by omega, by go_num, by rw [HP.out]; rfl, HT5.out, onceCw.asideN HA5.out _, su, sd, HB5.out, HSO.out⟩
              case measure => simp [intOf]; omega
          · have f1 : decide (z < 0) = false := decide_eq_false (by omega)
            have f3 : (z == 0) = false := beq_eq_false_iff_ne.mpr (by omega)
            have HP := Lib.hid (show pk key l (k + 1) = some j by rw [HPN.out, f1, f3]; rfl)
            have HSO := Lib.hid (show Short key l (pk key l (k + 1)) su sd by rw [HP.out]; exact HSO0.out)
            clear hz hw
            go_wp2_with fail
            go_quiet (fail)
            clear i0 i1 t3 f1 f3
            go_wp2_with fail
            go_roundw
            case rel => exact ⟨k + 1, by omega, by go_num, by rw [HP.out]; rfl, HT5.out, onceCw.asideN HA5.out _, su, sd, HB5.out, HSO.out⟩
            case measure => simp [intOf]; omega
      · rw [if_neg hw] at hp
        have t2 : ((l.getD k (0, 0)).2 == 0) = true := beq_iff_eq.mpr (by have := hgk.2.1; omega)
        have HP := Lib.hid hp
        have HKB2 := Lib.hid (KB.out.alloc (.cells #[.int .u64 (l.getD k (0, 0)).1, .int .u64 (l.getD k (0, 0)).2] 97))
        have hba : Below wr.heap.size wr (wr.alloc (.cells #[.int .u64 (l.getD k (0, 0)).1, .int .u64 (l.getD k (0, 0)).2] 97)) := (Below.refl wr.heap.size wr).alloc (Nat.le_refl _) _
        have HTB := Lib.hid (tab_below KT.out hba)
        have HAB := Lib.hid (KA.out.below hba)
        clear hp hw hgk HSB HSK HPL hba
        generalize pk key l k = o at *
        generalize l.getD k (0, 0) = x at *
        obtain ⟨xu, xd⟩ := x
        simp only at hk0 hk1 t2
        go_wp2_with fail
        go_roundw
        case rel => exact ⟨k + 1, by omega, by go_num, by rw [HP.out], HTB.out, HAB.out, su, sd, HKB2.out, by rw [HP.out]; exact KS.out⟩
        case measure => simp [intOf]; omega
    · have hkn : n = k := by omega
      subst hkn
      have HP := Lib.hid (show PickPost g T (plc (pk key l n)) w (.returned (.int .i64 (plc (pk key l n)))) wr from ⟨rfl, KT.out, KA.out⟩)
      go_wp2_with fail
      go_ret
      exact HP.out
end Go.Proofs.YtoaboklckkcjcaaGreat.strDw
/- What the cells of a value of plain data are: leaf by leaf, of structs in structs, arrays, slices. -/
namespace Go.Proofs.YtoaboklckkcjcaaGreat.base
open Go.RowKit Go.WideShapes Go.ChangeShapes Go.Joins Go.Deep
set_option linter.unusedVariables false

inductive Leaf where
  | int (k : IntKind)
  | bool
  | str
  | sl (t : TypeId)
def fieldLeafs (P : Program) (rec : TypeId → Option (List Leaf)) : List Field → Nat → Option (List Leaf)
  | [], _ => some []
  | f :: fs, off => match rec f.type with
    | some l => if f.offset = off ∧ P.cellsOf f.type = l.length then (fieldLeafs P rec fs (off + l.length)).map (l ++ ·) else none
    | none => none
def many (l : List Leaf) : Nat → List Leaf
  | 0 => []
  | n + 1 => many l n ++ l
def leafs (P : Program) : Nat → TypeId → Option (List Leaf)
  | 0, _ => none
  | n + 1, t => match P.underlying t with
    | some .bool => some [.bool]
    | some (.int k) => some [.int k]
    | some .string => some [.str]
    | some (.slice _) => some [.sl t]
    | some (.struct fs) => match fieldLeafs P (leafs P n) fs.toList 0 with
      | some l => if P.cellsOf t = l.length then some l else none
      | none => none
    | some (.array m e) => match leafs P n e with
      | some l => if P.cellsOf e = l.length ∧ P.cellsOf t = m * l.length then some (many l m) else none
      | none => none
    | _ => none
section
variable {H : Type} {enc : TypeId × Value → H} {P : Program} {w : World} {base : Nat} {spare : Nat → Bool} {held : Bool}
def LeafOk (enc : TypeId × Value → H) (P : Program) (w : World) (base : Nat) (spare : Nat → Bool) (held : Bool) : Leaf → Value → Prop
  | .int k, c => ∃ x, c = .int k x ∧ (Lit.int k x).wf = true
  | .bool, c => ∃ b, c = .bool b
  | .str, c => ∃ s, c = .string s ∧ s.size ≤ maxLen
  | .sl t, c => ∃ n y, DataW.trod enc P w base spare held n t [c] = some y
def Leaves (enc : TypeId × Value → H) (P : Program) (w : World) (base : Nat) (spare : Nat → Bool) (held : Bool) : List Leaf → List Value → Prop
  | [], cs => cs = []
  | l :: ls, cs => ∃ c cs', cs = c :: cs' ∧ LeafOk enc P w base spare held l c ∧ Leaves enc P w base spare held ls cs'
theorem Leaves.append {a b : List Leaf} {x y : List Value} (ha : Leaves enc P w base spare held a x) (hb : Leaves enc P w base spare held b y) : Leaves enc P w base spare held (a ++ b) (x ++ y) := by
  induction a generalizing x with
  | nil => simp only [Leaves] at ha; subst ha; exact hb
  | cons l ls ih =>
    obtain ⟨c, cs, rfl, h1, h2⟩ := ha
    exact ⟨c, cs ++ y, rfl, h1, ih h2⟩
theorem fields_leaves {rec : TypeId → Option (List Leaf)} (hrec : ∀ t l n cs y, rec t = some l → DataW.trod enc P w base spare held n t cs = some y → Leaves enc P w base spare held l cs) :
    ∀ (fs : List Field) (off : Nat) (ls : List Leaf) (cs : List Value), fieldLeafs P rec fs off = some ls →
      (∀ (i : Nat) (f : Field), fs[i]? = some f → ∃ n y, DataW.trod enc P w base spare held n f.type ((cs.drop f.offset).take (P.cellsOf f.type)) = some y) →
      Leaves enc P w base spare held ls ((cs.drop off).take ls.length) := by
  intro fs
  induction fs with
  | nil =>
    intro off ls cs h _
    simp only [fieldLeafs, Option.some.injEq] at h
    subst h
    simp [Leaves]
  | cons f fs ih =>
    intro off ls cs h hf
    simp only [fieldLeafs] at h
    split at h
    · rename_i l hl
      split at h
      · rename_i hc
        obtain ⟨ho, hs⟩ := hc
        cases hr : fieldLeafs P rec fs (off + l.length) with
        | none => rw [hr] at h; cases h
        | some r =>
          rw [hr] at h
          simp only [Option.map_some, Option.some.injEq] at h
          subst h
          obtain ⟨n, y, h0⟩ := hf 0 f rfl
          have h1 := hrec _ _ _ _ _ hl h0
          have h2 := ih _ _ cs hr (fun i g hg => hf (i + 1) g hg)
          rw [ho, hs] at h1
          have e : (cs.drop off).take (l ++ r).length = (cs.drop off).take l.length ++ (cs.drop (off + l.length)).take r.length := by
            rw [List.length_append, List.take_add, List.drop_drop]
          rw [e]
          exact h1.append h2
      · cases h
    · cases h
theorem many_leaves {l : List Leaf} (m : Nat) (cs : List Value) (h : ∀ i, i < m → Leaves enc P w base spare held l ((cs.drop (i * l.length)).take l.length)) :
    Leaves enc P w base spare held (many l m) (cs.take (m * l.length)) := by
  induction m with
  | zero => simp [many, Leaves]
  | succ m ih =>
    have h1 := ih (fun i hi => h i (by omega))
    have h2 := h m (by omega)
    rw [Nat.succ_mul, List.take_add]
    exact h1.append h2
theorem many_length (l : List Leaf) (m : Nat) : (many l m).length = m * l.length := by
  induction m with
  | zero => simp [many]
  | succ m ih => rw [many, List.length_append, ih, Nat.succ_mul]
theorem leaves_of (m : Nat) : ∀ (t : TypeId) (ls : List Leaf) (n : Nat) (cs : List Value) (y : DataW H × List MemPlace), leafs P m t = some ls → DataW.trod enc P w base spare held n t cs = some y → Leaves enc P w base spare held ls cs := by
  induction m with
  | zero => intro t ls n cs y h; simp [leafs] at h
  | succ m ih =>
    intro t ls n cs y h ht
    unfold leafs at h
    cases hu : P.underlying t with
    | none => rw [hu] at h; simp at h
    | some u =>
      rw [hu] at h
      cases u with
      | bool =>
        simp only [Option.some.injEq] at h
        subst h
        obtain ⟨b, rfl, _⟩ := DataW.trod_bool hu ht
        exact ⟨_, _, rfl, ⟨b, rfl⟩, rfl⟩
      | int k =>
        simp only [Option.some.injEq] at h
        subst h
        obtain ⟨x, rfl, _, hx⟩ := DataW.trod_int hu ht
        exact ⟨_, _, rfl, ⟨x, rfl, hx⟩, rfl⟩
      | string =>
        simp only [Option.some.injEq] at h
        subst h
        obtain ⟨x, rfl, _, hx⟩ := DataW.trod_string hu ht
        exact ⟨_, _, rfl, ⟨x, rfl, hx⟩, rfl⟩
      | slice e =>
        simp only [Option.some.injEq] at h
        subst h
        obtain ⟨a, l, c, rfl⟩ := slice_form hu ht
        exact ⟨_, _, rfl, ⟨n, y, ht⟩, rfl⟩
      | struct fs =>
        simp only at h
        split at h
        · rename_i l hl
          split at h
          · rename_i hc
            simp only [Option.some.injEq] at h
            subst h
            obtain ⟨xs, k, _, rfl, hlen, hx, hf⟩ := DataW.trod_struct hu ht
            have := fields_leaves (enc := enc) (w := w) (base := base) (spare := spare) (held := held) (fun t l n cs y => ih t l n cs y) fs.toList 0 l cs hl (fun i f hi => by
              have hi' : fs[i]? = some f := by simpa using hi
              have g := hf i f hi'
              have hlt : i < fs.size := (Array.getElem?_eq_some_iff.1 hi').1
              rw [List.getElem?_eq_getElem (by omega)] at g
              exact ⟨_, _, g⟩)
            rw [List.drop_zero, List.take_of_length_le (by omega)] at this
            exact this
          · cases h
        · cases h
      | array k e =>
        simp only at h
        split at h
        · rename_i l hl
          split at h
          · rename_i hc
            simp only [Option.some.injEq] at h
            subst h
            obtain ⟨xs, n', _, rfl, hlen, hx, hf⟩ := DataW.trod_array hu ht
            have := many_leaves (enc := enc) (P := P) (w := w) (base := base) (spare := spare) (held := held) (l := l) k cs (fun i hi => by
              have g := hf i hi
              rw [List.getElem?_eq_getElem (by omega)] at g
              rw [← hc.1]
              exact ih e l _ _ _ hl g)
            rw [List.take_of_length_le (by omega)] at this
            exact this
          · cases h
        · cases h
      | _ => simp at h
/-- An argument that is a struct. -/
theorem open_leaves {r : Reach} {b0 : Nat} {t : TypeId} {fs : Array Field} {v : Value} {d : DataW H} {p : List MemPlace} (m : Nat) (ls : List Leaf) (hs : P.underlying t = some (.struct fs)) (hl : leafs P m t = some ls)
    (hv : Value.okWide P w r b0 t v) (h : DataW.Trod enc P w base spare held t v d p) : ∃ cs : List Value, v = .agg cs.toArray ∧ Leaves enc P w base spare held ls cs := by
  obtain ⟨cs, rfl, hsz⟩ := okWide_struct hs hv
  obtain ⟨n, hn⟩ := h
  exact ⟨cs.toList, by simp, leaves_of m t ls n _ _ hl hn⟩
end
end Go.Proofs.YtoaboklckkcjcaaGreat.base
/- Arguments opened. -/
namespace Go.Proofs.YtoaboklckkcjcaaGreat.base
open Go.RowKit Go.WideShapes Go.ChangeShapes Go.Joins Go.Deep
set_option linter.unusedVariables false
section
variable {H : Type} {enc : TypeId × Value → H} {P : Program} {w : World} {b0 base : Nat} {spare : Nat → Bool} {held : Bool}
/-- A struct of two unsigned words, by value. -/
theorem open_two {r : Reach} {t e : TypeId} {f0 f1 : Field} {v : Value} {d : DataW H} {p : List MemPlace} (hs : P.underlying t = some (.struct #[f0, f1])) (h0 : f0.type = e) (h1 : f1.type = e) (he : P.underlying e = some (.int .u64)) (hone : oneCellFields P #[f0, f1] = true) (hC : P.cellsOf t = 2)
    (hv : Value.okWide P w r b0 t v) (h : DataW.Trod enc P w base spare held t v d p) :
    ∃ x y : Int, v = .agg #[.int .u64 x, .int .u64 y] ∧ 0 ≤ x ∧ x < 18446744073709551616 ∧ 0 ≤ y ∧ y < 18446744073709551616 := by
  obtain ⟨c0, c1, y0, y1, m, rfl, rfl, rfl, hy0, hy1⟩ := open_agg2 hs hone hC hv h
  rw [h0] at hy0
  rw [h1] at hy1
  obtain ⟨x, e0, rfl, wx⟩ := DataW.trod_int he hy0
  obtain ⟨y, e1, rfl, wy⟩ := DataW.trod_int he hy1
  simp at e0 e1
  subst e0 e1
  have hx := bounds_u64 wx
  have hy := bounds_u64 wy
  exact ⟨x, y, rfl, hx.1, by omega, hy.1, by omega⟩
theorem open_u64 {r : Reach} {t : TypeId} {v : Value} {d : DataW H} {p : List MemPlace} (he : P.underlying t = some (.int .u64)) (hv : Value.okWide P w r b0 t v) (h : DataW.Trod enc P w base spare held t v d p) :
    ∃ x : Int, v = .int .u64 x ∧ 0 ≤ x ∧ x < 18446744073709551616 := by
  obtain ⟨x, rfl, rfl, rfl, wx⟩ := open_int he hv h
  have hx := bounds_u64 wx
  exact ⟨x, rfl, hx.1, by omega⟩
theorem open_i64 {r : Reach} {t : TypeId} {v : Value} {d : DataW H} {p : List MemPlace} (he : P.underlying t = some (.int .i64)) (hv : Value.okWide P w r b0 t v) (h : DataW.Trod enc P w base spare held t v d p) :
    ∃ x : Int, v = .int .i64 x ∧ -9223372036854775808 ≤ x ∧ x < 9223372036854775808 := by
  obtain ⟨x, rfl, rfl, rfl, wx⟩ := open_int he hv h
  have hx := bounds_i64 wx
  exact ⟨x, rfl, hx.1, by omega⟩
end
end Go.Proofs.YtoaboklckkcjcaaGreat.base
/- A slice of structs that came in: what its cells are. -/
namespace Go.Proofs.YtoaboklckkcjcaaGreat.base
open Go.RowKit Go.WideShapes Go.ChangeShapes Go.Joins Go.Deep
set_option linter.unusedVariables false
/-- Structs of k cells each, side by side. -/
def RowsOf (w : World) (A : Option Addr) (n k : Nat) (f : Nat → List Value) : Prop := n = 0 ∨ ∃ b off, A = some ⟨b, off, none⟩ ∧ b < w.heap.size ∧ ∀ j, j < n → ∀ i, i < k → w.cell? ⟨b, off + j * k + i, none⟩ = (f j)[i]?
section
variable {H : Type} {enc : TypeId × Value → H} {P : Program} {w : World} {base b0 : Nat} {held : Bool}
theorem open_rows {r : Reach} {t e : TypeId} {v : Value} {d : DataW H} {p : List MemPlace} (q k : Nat) (ls : List Leaf) (ht : P.underlying t = some (.slice e)) (he : leafs P q e = some ls) (hc : P.cellsOf e = k) (hk : 0 < k)
    (hv : Value.okWide P w r b0 t v) (h : DataW.Trod enc P w base (fun _ => true) held t v d p) :
    ∃ (A : Option Addr) (n c : Nat) (f : Nat → List Value), v = .slice A n c ∧ n ≤ c ∧ c ≤ maxLen ∧ (A = none → c = 0) ∧ (∀ j, j < n → Leaves enc P w base (fun _ => true) held ls (f j) ∧ (f j).length = k) ∧ RowsOf w A n k f := by
  obtain ⟨a, len, cap, rfl⟩ := okWide_slice ht hv
  obtain ⟨n, hn⟩ := h
  rcases open_slice ht hn with ⟨hcs, _⟩ | ⟨ad, len', cap', m, k', D, PL, hcs, hb, hl, hm, hmm, _, hV⟩
  · simp only [Value.cells, List.cons.injEq, and_true] at hcs
    injection hcs with h1 h2 h3
    subst h1 h2 h3
    exact ⟨none, 0, 0, fun _ => [], rfl, Nat.le_refl _, by unfold maxLen; omega, fun _ => rfl, fun i hi => by omega, .inl rfl⟩
  · simp only [Value.cells, List.cons.injEq, and_true] at hcs
    injection hcs with h1 h2 h3
    subst h1 h2 h3
    have key : ∀ i, i < len → ∃ z : List Value, (Leaves enc P w base (fun _ => true) held ls z ∧ z.length = k) ∧ ∀ j, j < k → w.cell? ((ad.add (i * k)).add j) = z[j]? := by
      intro i hi
      obtain ⟨cs', h1, h2⟩ := hV i (by rw [hmm]; split <;> omega)
      have hL := leaves_of q _ _ _ _ _ he h2
      rw [hc] at h1
      obtain ⟨_, hlen, hcell⟩ := World.cells?_some h1
      refine ⟨_, ⟨hL, by simpa using hlen⟩, fun j hj => ?_⟩
      have := hcell j (by omega)
      simpa using this
    obtain ⟨Z, hZ⟩ := choose_lt key
    refine ⟨some ad, len, cap, Z, rfl, hl, hm, (fun e => (by cases e)), fun i hi => (hZ i hi).1, ?_⟩
    rcases Nat.eq_zero_or_pos len with h0 | h0
    · exact .inl h0
    · have hc0 := (hZ 0 h0).2 0 hk
      have hs0 : (Z 0)[0]? = some ((Z 0)[0]'(by rw [(hZ 0 h0).1.2]; exact hk)) := List.getElem?_eq_getElem _
      rw [hs0] at hc0
      obtain ⟨blk, off, spot⟩ := ad
      have hs : spot = none := by simpa [Addr.add] using World.cell?_spot hc0
      subst hs
      refine .inr ⟨blk, off, rfl, ?_, fun j hj i hi => ?_⟩
      · have := World.block_lt_of_cell? w _ hc0
        simpa [Addr.add] using this
      · have := (hZ j hj).2 i hi
        rw [Addr.add_lit, Addr.add_lit] at this
        exact this
end
end Go.Proofs.YtoaboklckkcjcaaGreat.base
/- Layer 43: nodes, and which is the first of a name. -/
namespace Go.Proofs.YtoaboklckkcjcaaGreat.dfA
open Go.ChangeShapes Go.WideShapes Go.ChangeAt Go.RowKit
open Go.Proofs.YtoaboklckkcjcaaGreat.base
set_option linter.unusedVariables false

/-- A node: its name, its kind, the one above it, its weight, its address. -/
structure Nd where
  nm : ByteArray
  kind : Int
  ab : Int
  wt : Int
  v6 : Bool
  hi : Int
  lo : Int
def Nd.cells (e : Nd) : Array Value := #[.string e.nm, .int .i64 e.kind, .int .i64 e.ab, .int .i64 e.wt, .bool e.v6, .int .u64 e.hi, .int .u64 e.lo]
/-- A slice that reads as nodes. -/
def RdN (w : World) (A : Option Addr) (l : List Nd) : Prop := l = [] ∨ ∃ b off, A = some ⟨b, off, none⟩ ∧ b < w.heap.size ∧ ∀ j (hj : j < l.length), ∀ i, i < 7 → w.cell? ⟨b, off + j * 7 + i, none⟩ = (l[j]).cells[i]?
theorem RdN.below {w w' : World} {A : Option Addr} {l : List Nd} (h : RdN w A l) (hb : Below w.heap.size w w') : RdN w' A l := by
  rcases h with h0 | ⟨b, off, h1, h2, h3⟩
  · exact .inl h0
  · refine .inr ⟨b, off, h1, Nat.lt_of_lt_of_le h2 hb.size, fun j hj i hi => ?_⟩
    rw [← h3 j hj i hi]
    unfold World.cell?
    rw [hb.block b h2]
theorem RdN.at_ {w : World} {A : Option Addr} {l : List Nd} (h : RdN w A l) (j : Nat) (hj : j < l.length) : ∃ b off, A = some ⟨b, off, none⟩ ∧ b < w.heap.size ∧ ∀ i, i < 7 → w.cell? ⟨b, off + j * 7 + i, none⟩ = (l[j]).cells[i]? := by
  rcases h with h0 | ⟨b, off, h1, h2, h3⟩
  · subst h0; simp at hj
  · exact ⟨b, off, h1, h2, fun i hi => h3 j hj i hi⟩
/-- The first of a name. -/
def IsFind (l : List Nd) (s : ByteArray) (at' : Int) : Prop := (at' = -1 ∧ ∀ e, e ∈ l → e.nm ≠ s) ∨ ∃ j, ∃ hj : j < l.length, at' = (j : Int) ∧ (l[j]).nm = s ∧ ∀ q, ∀ hq : q < j, (l[q]'(by omega)).nm ≠ s
theorem IsFind.uniq {l : List Nd} {s : ByteArray} {a b : Int} (h1 : IsFind l s a) (h2 : IsFind l s b) : a = b := by
  rcases h1 with ⟨e1, n1⟩ | ⟨j, hj, e1, n1, m1⟩ <;> rcases h2 with ⟨e2, n2⟩ | ⟨q, hq, e2, n2, m2⟩
  · rw [e1, e2]
  · exact absurd n2 (n1 _ (List.getElem_mem hq))
  · exact absurd n1 (n2 _ (List.getElem_mem hj))
  · rcases Nat.lt_trichotomy j q with h | h | h
    · exact absurd n1 (m2 j h)
    · rw [e1, e2, h]
    · exact absurd n2 (m1 q h)
theorem str_yes {a b : ByteArray} (h : a = b) : (a.toList == b.toList) = true := by rw [h]; simp
theorem str_no {a b : ByteArray} (h : a ≠ b) : (a.toList == b.toList) = false := by
  cases hq : (a.toList == b.toList) with
  | false => rfl
  | true =>
    have h2 : a.toList = b.toList := by simpa using hq
    rw [ByteArray.toList_eq, ByteArray.toList_eq] at h2
    exact absurd (bytes_inj h2) h
theorem find1_any (e : Nd) (s : ByteArray) (c : Nat) (w : World) (hc : w.cell? ⟨c, 0, none⟩ = some (.string s)) (q : Bool) (hq : q = true ↔ e.nm = s) : Calls Tryz.prog 104 #[.agg e.cells, .pointer (some ⟨c, 0, none⟩)] w fun o w' => o = .returned (.bool q) ∧ Below w.heap.size w w' := by
  have HW := Lib.hid ((Below.refl w.heap.size w).alloc (Nat.le_refl _) (.cells #[.string e.nm, .int .i64 e.kind, .int .i64 e.ab, .int .i64 e.wt, .bool e.v6, .int .u64 e.hi, .int .u64 e.lo] 67))
  have hc2 : (w.alloc (.cells #[.string e.nm, .int .i64 e.kind, .int .i64 e.ab, .int .i64 e.wt, .bool e.v6, .int .u64 e.hi, .int .u64 e.lo] 67)).cell? ⟨c, 0, none⟩ = some (.string s) := (HW.out.cell (p := ⟨c, 0, none⟩) (World.block_lt_of_cell? w _ hc)).trans hc
  have hs : (e.nm.toList == s.toList) = q := by
    by_cases h : e.nm = s
    · rw [hq.mpr h]; exact str_yes h
    · have : q = false := by cases q with
        | false => rfl
        | true => exact absurd (hq.mp rfl) h
      rw [this]; exact str_no h
  unfold Nd.cells
  clear hc hq
  go_enter Tryz.func104, Tryz.ntmps104
  go_wp2_with fail
  go_ret
  first | exact ⟨rfl, HW.out⟩ | exact ⟨rfl, HW.out.drew⟩
/-- As far as has been looked. -/
def NoF (l : List Nd) (s : ByteArray) (j : Nat) : Prop := ∀ q, ∀ hq : q < l.length, q < j → (l[q]).nm ≠ s
theorem NoF.none {l : List Nd} {s : ByteArray} (h : NoF l s l.length) : IsFind l s (-1) := .inl ⟨rfl, fun e he => by
  obtain ⟨q, hq, rfl⟩ := List.mem_iff_getElem.mp he
  exact h q hq hq⟩
theorem NoF.here {l : List Nd} {s : ByteArray} {j : Nat} (h : NoF l s j) (hj : j < l.length) (e : (l[j]).nm = s) : IsFind l s (j : Int) := .inr ⟨j, hj, rfl, e, fun q hq => h q (by omega) hq⟩
theorem NoF.next {l : List Nd} {s : ByteArray} {j : Nat} (h : NoF l s j) (hj : j < l.length) (e : (l[j]).nm ≠ s) : NoF l s (j + 1) := fun q hq hq2 => by
  by_cases hqj : q = j
  · subst hqj; exact e
  · exact h q hq (by omega)
set_option maxHeartbeats 4000000 in
theorem index_any (A : Option Addr) (c : Nat) (l : List Nd) (s : ByteArray) (w : World) (p : Nat) (hp : w.cell? ⟨p, 0, none⟩ = some (.string s)) (hr : RdN w A l) (hl : l.length ≤ 1000) (hc1 : l.length ≤ c) (hc2 : c ≤ 9223372036854775807) :
    Calls Tryz.prog 103 #[.slice A l.length c, .func (.func 104) #[] #[.pointer (some ⟨p, 0, none⟩)]] w fun o w' => ∃ at' : Int, o = .returned (.int .i64 at') ∧ IsFind l s at' ∧ Below w.heap.size w w' := by
  have HR := Lib.hid hr
  obtain ⟨n, hn⟩ : ∃ n, n = l.length := ⟨_, rfl⟩
  have HNL := Lib.hid hn
  rw [← hn] at hl hc1 ⊢
  have HP := Lib.hid (show ∀ w2, Below w.heap.size w w2 → w2.cell? ⟨p, 0, none⟩ = some (.string s) from fun w2 hb => (hb.cell (p := ⟨p, 0, none⟩) (World.block_lt_of_cell? w _ hp)).trans hp)
  clear hn hr hp
  go_enter Tryz.func103, Tryz.ntmps103
  go_wp2_with fail
  go_loopw [8] (fun i wr => ∃ j : Nat, i = .int .i64 j ∧ j ≤ n ∧ Hid (NoF l s j) ∧ Below w.heap.size w wr) (fun i _ => n - (intOf i).toNat)
  case atStart => exact ⟨0, rfl, by omega, Lib.hid (fun q hq hq2 => by omega), by first | exact Below.refl _ _ | exact (Below.refl _ _).drew⟩
  case round =>
    obtain ⟨j, rfl, hj, HNO, hbel⟩ := hrel
    have KB := Lib.hid hbel
    clear hbel
    by_cases hjn : j < n
    · have t1 : decide ((j : Int) < n) = true := decide_eq_true (by omega)
      have hjl : j < l.length := HNL.out ▸ hjn
      obtain ⟨b, off, hA, hbl, hC⟩ := (HR.out.below KB.out).at_ j hjl
      subst hA
      obtain ⟨e, he⟩ : ∃ e, e = l[j] := ⟨_, rfl⟩
      rw [← he] at hC
      have d0 : wr.cell? ⟨b, off + j * 7, none⟩ = some (.string e.nm) := hC 0 (by omega)
      have d1 : wr.cell? ⟨b, off + j * 7 + 1, none⟩ = some (.int .i64 e.kind) := hC 1 (by omega)
      have d2 : wr.cell? ⟨b, off + j * 7 + 2, none⟩ = some (.int .i64 e.ab) := hC 2 (by omega)
      have d3 : wr.cell? ⟨b, off + j * 7 + 3, none⟩ = some (.int .i64 e.wt) := hC 3 (by omega)
      have d4 : wr.cell? ⟨b, off + j * 7 + 4, none⟩ = some (.bool e.v6) := hC 4 (by omega)
      have d5 : wr.cell? ⟨b, off + j * 7 + 5, none⟩ = some (.int .u64 e.hi) := hC 5 (by omega)
      have d6 : wr.cell? ⟨b, off + j * 7 + 6, none⟩ = some (.int .u64 e.lo) := hC 6 (by omega)
      have HE := Lib.hid he
      have j0 : (0 : Int) ≤ j := by omega
      have j1 : (j : Int) < n := by omega
      clear hC he
      by_cases hx : e.nm = s
      · have HF := Lib.hid (HNO.out.here hjl (HE.out ▸ hx))
        have HC := Lib.hid (find1_any e s p wr (HP.out wr KB.out) true ⟨fun _ => hx, fun _ => rfl⟩)
        unfold Nd.cells at HC
        clear hx
        go_wp2_with fail
        refine HC.out.mono ?_
        rintro o w3 ⟨rfl, hb⟩
        have B3 := Lib.hid (KB.out.trans (hb.mono KB.out.size))
        clear hb
        go_wp2_with fail
        go_ret
        exact ⟨_, rfl, HF.out, B3.out⟩
      · have HX := Lib.hid (HNO.out.next hjl (HE.out ▸ hx))
        have HC := Lib.hid (find1_any e s p wr (HP.out wr KB.out) false ⟨fun h => (by cases h), fun h => absurd h hx⟩)
        unfold Nd.cells at HC
        clear hx
        go_wp2_with fail
        refine HC.out.mono ?_
        rintro o w3 ⟨rfl, hb⟩
        have B3 := Lib.hid (KB.out.trans (hb.mono KB.out.size))
        clear hb
        go_wp2_with fail
        go_roundw
        case rel => exact ⟨j + 1, by go_num, by omega, HX, B3.out⟩
        case measure => simp [intOf]; omega
    · have t1 : decide ((j : Int) < n) = false := decide_eq_false (by omega)
      obtain rfl : n = j := by omega
      have HF := Lib.hid (show IsFind l s (-1) from NoF.none (by have := HNO.out; rw [HNL.out] at this; exact this))
      go_wp2_with fail
      go_ret
      exact ⟨_, rfl, HF.out, KB.out⟩
theorem find_any (A : Option Addr) (c : Nat) (l : List Nd) (s : ByteArray) (w : World) (hr : RdN w A l) (hl : l.length ≤ 1000) (hc1 : l.length ≤ c) (hc2 : c ≤ 9223372036854775807) :
    Calls Tryz.prog 92 #[.slice A l.length c, .string s] w fun o w' => ∃ at' : Int, o = .returned (.int .i64 at') ∧ IsFind l s at' ∧ Below w.heap.size w w' := by
  have hmf : ∀ (fn : Fn) (first cap : Array Value) (w : World), (Instr.makeFunc fn first cap).run Tryz.prog w = .ok (.func fn first cap) w := fun _ _ _ _ => rfl
  have HW := Lib.hid ((Below.refl w.heap.size w).alloc (Nat.le_refl _) (.cells #[.string s] 9))
  have HI := Lib.hid (index_any A c l s (w.alloc (.cells #[.string s] 9)) w.heap.size ((Blk.new w 9 #[.string s]).cell 0) (hr.below HW.out) hl hc1 hc2)
  clear hr
  go_enter Tryz.func92, Tryz.ntmps92
  go_wp2_with fail
  refine HI.out.mono ?_
  rintro o w2 ⟨at', rfl, hf, hb⟩
  have HF := Lib.hid hf
  have HB := Lib.hid (HW.out.trans (hb.mono HW.out.size))
  clear hf hb
  go_wp2_with fail
  go_ret
  first | exact ⟨_, rfl, HF.out, HB.out⟩ | exact ⟨_, rfl, HF.out, HB.out.drew⟩
end Go.Proofs.YtoaboklckkcjcaaGreat.dfA
/- Layer 16: which names may be. -/
namespace Go.Proofs.YtoaboklckkcjcaaGreat.treA
open Go.ChangeShapes Go.WideShapes Go.ChangeAt Go.RowKit
open Go.Proofs.YtoaboklckkcjcaaGreat.base Go.Proofs.YtoaboklckkcjcaaGreat.dfA
set_option linter.unusedVariables false

/-- May a byte stand in a name? -/
def chB (c : Int) : Bool := (decide (97 ≤ c) && decide (c ≤ 122)) || (decide (65 ≤ c) && decide (c ≤ 90)) || (decide (48 ≤ c) && decide (c ≤ 57)) || c == 45 || c == 95 || c == 46
theorem ch_yes {c : Int} (h : (97 ≤ c ∧ c ≤ 122) ∨ (65 ≤ c ∧ c ≤ 90) ∨ (48 ≤ c ∧ c ≤ 57) ∨ c = 45 ∨ c = 95 ∨ c = 46) : chB c = true := by
  simp only [chB, Bool.or_eq_true, Bool.and_eq_true, decide_eq_true_eq, beq_iff_eq]
  omega
theorem ch_no {c : Int} (h : ¬ ((97 ≤ c ∧ c ≤ 122) ∨ (65 ≤ c ∧ c ≤ 90) ∨ (48 ≤ c ∧ c ≤ 57) ∨ c = 45 ∨ c = 95 ∨ c = 46)) : chB c = false := by
  cases hq : chB c with
  | false => rfl
  | true =>
    simp only [chB, Bool.or_eq_true, Bool.and_eq_true, decide_eq_true_eq, beq_iff_eq] at hq
    omega
def okTo (s : ByteArray) (k : Nat) : Bool := (s.data.toList.take k).all fun c => chB (c.toNat : Int)
/-- May a name be? -/
def nameB (s : ByteArray) : Bool := decide (1 ≤ s.size) && decide (s.size ≤ 32) && okTo s s.size
theorem okTo_next {s : ByteArray} {k : Nat} (hk : k < s.size) : okTo s (k + 1) = (okTo s k && chB (s[k].toNat : Int)) := by
  unfold okTo
  rw [List.take_succ_eq_append_getElem (by simpa using hk), List.all_append]
  simp only [List.all_cons, List.all_nil, Bool.and_true]
  rfl
theorem okTo_all {s : ByteArray} {k : Nat} (hk : s.size ≤ k) : okTo s k = okTo s s.size := by
  unfold okTo
  rw [List.take_of_length_le (by simpa using hk), List.take_of_length_le (by simp)]
theorem okTo_bad {s : ByteArray} {k : Nat} (hk : k < s.size) (h : chB (s[k].toNat : Int) = false) : okTo s s.size = false := by
  cases hq : okTo s s.size with
  | false => rfl
  | true =>
    unfold okTo at hq
    rw [List.all_eq_true] at hq
    have h2 := hq s[k] (by
      rw [List.take_of_length_le (by simp)]
      exact List.getElem_mem (by simpa using hk))
    rw [h] at h2
    cases h2
theorem name_bad {s : ByteArray} {k : Nat} (hk : k < s.size) (h : chB (s[k].toNat : Int) = false) : nameB s = false := by
  unfold nameB
  rw [okTo_bad hk h, Bool.and_false]
set_option maxHeartbeats 2000000 in
theorem name_any (s : ByteArray) (w : World) (hs : s.size ≤ 9223372036854775807) : Calls Tryz.prog 95 #[.string s] w fun e w' => e = .returned (.bool (nameB s)) ∧ w = w' := by
  have HNB := Lib.hid (show ∀ k, (hk : k < s.size) → chB (s[k].toNat : Int) = false → nameB s = false from fun k hk h => name_bad hk h)
  have HNX := Lib.hid (show ∀ k, (hk : k < s.size) → chB (s[k].toNat : Int) = true → okTo s k = true → okTo s (k + 1) = true from fun k hk h h2 => by rw [okTo_next hk, h, h2]; rfl)
  have HE := Lib.hid (show okTo s s.size = true → nameB s = (decide (1 ≤ (s.size : Int)) && decide ((s.size : Int) ≤ 32)) from fun h => by
    unfold nameB
    rw [h, Bool.and_true]
    congr 1
    · simp only [decide_eq_decide]; omega
    · simp only [decide_eq_decide]; omega)
  go_enter Tryz.func95, Tryz.ntmps95
  go_wp2
  go_loop [8] (fun i => ∃ k : Nat, k ≤ s.size ∧ i = .int .i64 k ∧ Hid (okTo s k = true)) (fun i => s.size - (intOf i).toNat)
  case atStart => exact ⟨0, Nat.zero_le _, rfl, Lib.hid rfl⟩
  case round =>
    obtain ⟨k, hk, rfl, HK⟩ := hrel
    by_cases hlt : k < s.size
    · have hb1 := s[k].toNat_lt
      go_wp2
      all_goals (try simp only [Bool.not_eq_eq_eq_not, Bool.not_true, Bool.not_false, decide_eq_true_eq, decide_eq_false_iff_not, bne_iff_ne, bne_eq_false_iff_eq, ne_eq] at *)
      all_goals first
        | (have e := HNB.out k hlt (ch_no (by omega))
           rw [e]
           go_ret
           exact ⟨rfl, rfl⟩)
        | (have hy := ch_yes (c := (s[k].toNat : Int)) (by omega)
           refine ⟨⟨k + 1, by omega, rfl, Lib.hid (HNX.out k hlt hy HK.out)⟩, ?_⟩
           simp only [intOf]
           omega)
    · obtain rfl : k = s.size := by omega
      have H5 := Lib.hid (HE.out HK.out)
      go_wp2
      all_goals rw [H5.out]
      all_goals first
        | (rw [show (decide (1 ≤ (s.size : Int)) && decide ((s.size : Int) ≤ 32)) = true by simp only [Bool.and_eq_true, decide_eq_true_eq]; omega]; go_ret; exact ⟨rfl, rfl⟩)
        | (rw [show (decide (1 ≤ (s.size : Int)) && decide ((s.size : Int) ≤ 32)) = false by simp only [Bool.and_eq_false_iff, decide_eq_false_iff_not]; omega]; go_ret; exact ⟨rfl, rfl⟩)
        | (rw [show decide (1 ≤ (s.size : Int)) = true from decide_eq_true (by omega), Bool.true_and]; go_ret; exact ⟨rfl, rfl⟩)
set_option maxHeartbeats 2000000 in
theorem lawname_any (s : ByteArray) (w : World) (hs : s.size ≤ 9223372036854775807) : Calls Tryz.prog 65 #[.string s] w fun e w' => e = .returned (.bool (nameB s)) ∧ w = w' := by
  have HNB := Lib.hid (show ∀ k, (hk : k < s.size) → chB (s[k].toNat : Int) = false → nameB s = false from fun k hk h => name_bad hk h)
  have HNX := Lib.hid (show ∀ k, (hk : k < s.size) → chB (s[k].toNat : Int) = true → okTo s k = true → okTo s (k + 1) = true from fun k hk h h2 => by rw [okTo_next hk, h, h2]; rfl)
  have HE := Lib.hid (show okTo s s.size = true → nameB s = (decide (1 ≤ (s.size : Int)) && decide ((s.size : Int) ≤ 32)) from fun h => by
    unfold nameB
    rw [h, Bool.and_true]
    congr 1
    · simp only [decide_eq_decide]; omega
    · simp only [decide_eq_decide]; omega)
  have HL := Lib.hid (show ¬ (1 ≤ (s.size : Int) ∧ (s.size : Int) ≤ 32) → nameB s = false from fun h => by
    unfold nameB
    rw [show (decide (1 ≤ s.size) && decide (s.size ≤ 32)) = false by simp only [Bool.and_eq_false_iff, decide_eq_false_iff_not]; omega, Bool.false_and])
  by_cases hin : 1 ≤ (s.size : Int) ∧ (s.size : Int) ≤ 32
  · have hin1 := hin.1
    have hin2 := hin.2
    go_enter Tryz.func65, Tryz.ntmps65
    go_wp2
    go_loop [3] (fun i => ∃ k : Nat, k ≤ s.size ∧ i = .int .i64 k ∧ Hid (okTo s k = true)) (fun i => s.size - (intOf i).toNat)
    case atStart => exact ⟨0, Nat.zero_le _, rfl, Lib.hid rfl⟩
    case round =>
      obtain ⟨k, hk, rfl, HK⟩ := hrel
      by_cases hlt : k < s.size
      · have hb1 := s[k].toNat_lt
        go_wp2
        all_goals (try simp only [Bool.not_eq_eq_eq_not, Bool.not_true, Bool.not_false, decide_eq_true_eq, decide_eq_false_iff_not, bne_iff_ne, bne_eq_false_iff_eq, ne_eq] at *)
        all_goals first
          | (have e := HNB.out k hlt (ch_no (by omega))
             rw [e]
             go_ret
             exact ⟨rfl, rfl⟩)
          | (have hy := ch_yes (c := (s[k].toNat : Int)) (by omega)
             refine ⟨⟨k + 1, by omega, rfl, Lib.hid (HNX.out k hlt hy HK.out)⟩, ?_⟩
             simp only [intOf]
             omega)
      · obtain rfl : k = s.size := by omega
        have H5 := Lib.hid (HE.out HK.out)
        go_wp2
        all_goals rw [H5.out]
        all_goals (rw [show (decide (1 ≤ (s.size : Int)) && decide ((s.size : Int) ≤ 32)) = true by simp only [Bool.and_eq_true, decide_eq_true_eq]; omega]; go_ret; exact ⟨rfl, rfl⟩)
  · go_enter Tryz.func65, Tryz.ntmps65
    rw [HL.out hin]
    have hnn : (0 : Int) ≤ s.size := by omega
    by_cases h1 : (s.size : Int) < 1
    · go_wp2
      all_goals (go_ret; exact ⟨rfl, rfl⟩)
    · have h2 : (32 : Int) < s.size := by omega
      go_wp2
      all_goals (go_ret; exact ⟨rfl, rfl⟩)
end Go.Proofs.YtoaboklckkcjcaaGreat.treA
