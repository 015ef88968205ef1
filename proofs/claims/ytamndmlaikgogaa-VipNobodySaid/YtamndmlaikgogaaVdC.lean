/- Layer 6: an address with its last bits 0; may a prefix be? -/
import Derived.Test.YtamndmlaikgogaaVdB
import Derived.Deep.DeepCutAuto
import Derived.IntWalk
namespace Go.Proofs.Ytamndmlaikgogaa.vdC
open Go.ChangeShapes Go.WideShapes Go.ChangeAt Go.RowKit
open Go.Proofs.Ytamndmlaikgogaa.base Go.Proofs.Ytamndmlaikgogaa.dfA Go.Proofs.Ytamndmlaikgogaa.treB Go.Proofs.Ytamndmlaikgogaa.vdB
set_option linter.unusedVariables false

theorem size_a : (Try.prog.info? 27).map (·.size) = some 3 := by kernel_rfl
theorem results_ad {fn : Func} {p : Tmp} (h : fn.results = #[.cell p 27]) (tmps : Array Value) (w : World) (g : Nat) (v6 : Bool) (hi lo : Int) (hp : tmps.getD p undef = .pointer (some ⟨g, 0, none⟩)) (hg : Blk w g 27 #[.bool v6, .int .u64 hi, .int .u64 lo]) :
    (results fn tmps).run Try.prog w = .ok (.agg #[.bool v6, .int .u64 hi, .int .u64 lo]) w :=
  results_cell_row h tmps w g 27 _ (0, 0) _ hp hg Try.underlying27 rfl size_a
theorem one_a (a : Bool) (b c : Int) : (#[Value.bool a, .int .u64 b, .int .u64 c]).all (·.oneCell') = true := by simp [Value.oneCell']
theorem v6_any (hi lo : Int) (w : World) : Calls Try.prog 55 #[.int .u64 hi, .int .u64 lo] w fun e w' => e = .returned (.agg #[.bool true, .int .u64 hi, .int .u64 lo]) ∧ Below w.heap.size w w' := by
  obtain ⟨w1, hw1⟩ : ∃ w1, w1 = w.alloc (.cells #[.bool false, .int .u64 0, .int .u64 0] 27) := ⟨_, rfl⟩
  have E1 := Lib.hid hw1
  have HB := Lib.hid (show Blk w1 w.heap.size 27 #[.bool false, .int .u64 0, .int .u64 0] from hw1 ▸ Blk.new w _ _)
  have HW := Lib.hid (show Below w.heap.size w w1 from hw1 ▸ (Below.refl w.heap.size w).alloc (Nat.le_refl _) _)
  have HR := Lib.hid (setRow_heap _ w.heap.size _ #[.bool true, .int .u64 hi, .int .u64 lo] _ (0, 0) HB.out)
  have BZ := Lib.hid (below_row HW.out (Nat.le_refl w.heap.size) #[.bool true, .int .u64 hi, .int .u64 lo])
  clear hw1
  go_enter Try.func55, Try.ntmps55
  go_upto_region 1 with fail
  rw [← E1.out]
  go_wp2_with (refine wpList_store_row rfl 27 _ _ rfl w.heap.size #[.bool true, .int .u64 hi, .int .u64 lo] rfl rfl 27 #[.bool false, .int .u64 0, .int .u64 0] HB.out size_a rfl (one_a _ _ _) ?_)
  refine bodyPost_ret (results_ad rfl _ _ w.heap.size true hi lo rfl HR.out) rfl ⟨rfl, BZ.out⟩
/-- How many bits stay. -/
def cutN (v6 : Bool) (bits : Int) : Int := min (max bits 0) (if v6 = true then 128 else 32)
theorem cutN_in (v6 : Bool) (bits : Int) : 0 ≤ cutN v6 bits ∧ cutN v6 bits ≤ 128 ∧ (v6 = false → cutN v6 bits ≤ 32) := by
  unfold cutN; cases v6 <;> simp <;> omega
def mkHi (v6 : Bool) (hi bits : Int) : Int := if v6 = true then maskZ hi (64 - cutN v6 bits).toNat else hi
def mkLo (v6 : Bool) (lo bits : Int) : Int := if v6 = true then maskZ lo (128 - cutN v6 bits).toNat else maskZ lo (32 - cutN v6 bits).toNat
theorem mk_in (v6 : Bool) (hi lo bits : Int) (h0 : 0 ≤ hi) (h1 : hi < 18446744073709551616) (l0 : 0 ≤ lo) (l1 : lo < 18446744073709551616) : 0 ≤ mkHi v6 hi bits ∧ mkHi v6 hi bits < 18446744073709551616 ∧ 0 ≤ mkLo v6 lo bits ∧ mkLo v6 lo bits < 18446744073709551616 := by
  unfold mkHi mkLo
  cases v6
  · have := maskZ_in l0 l1 (32 - cutN false bits).toNat
    simp; omega
  · have := maskZ_in l0 l1 (128 - cutN true bits).toNat
    have := maskZ_in h0 h1 (64 - cutN true bits).toNat
    simp; omega
theorem HFA {hi lo : Int} {v6 : Bool} (g : Nat) (W : World) (h : Blk W g 27 #[.bool v6, .int .u64 hi, .int .u64 lo]) (u v x : Value) : (((W.setCell ⟨g + 1, 0, none⟩ u).setCell ⟨g + 1, 1, none⟩ v).setCell ⟨g + 1, 2, none⟩ x).cell? ⟨g, 1, none⟩ = some (.int .u64 hi) ∧ (((W.setCell ⟨g + 1, 0, none⟩ u).setCell ⟨g + 1, 1, none⟩ v).setCell ⟨g + 1, 2, none⟩ x).cell? ⟨g, 2, none⟩ = some (.int .u64 lo) := by
  have h := ((h.far (p := ⟨g + 1, 0, none⟩) (by simp) u).far (p := ⟨g + 1, 1, none⟩) (by simp) v).far (p := ⟨g + 1, 2, none⟩) (by simp) x
  exact ⟨h.cell 1, h.cell 2⟩
theorem HENDW (g : Nat) (w W : World) (h : Blk W (g + 1) 27 #[.bool false, .int .u64 0, .int .u64 0]) (hb : Below g w W) (a : Bool) (b c : Int) : Blk (((W.setCell ⟨g + 1, 0, none⟩ (.bool a)).setCell ⟨g + 1, 1, none⟩ (.int .u64 b)).setCell ⟨g + 1, 2, none⟩ (.int .u64 c)) (g + 1) 27 #[.bool a, .int .u64 b, .int .u64 c] ∧ Below g w (((W.setCell ⟨g + 1, 0, none⟩ (.bool a)).setCell ⟨g + 1, 1, none⟩ (.int .u64 b)).setCell ⟨g + 1, 2, none⟩ (.int .u64 c)) :=
  ⟨((h.set_ 0 (.bool a)).set_ 1 (.int .u64 b)).set_ 2 (.int .u64 c), ((hb.setCell (by simp) _).setCell (by simp) _).setCell (by simp) _⟩
set_option maxHeartbeats 4000000 in
theorem mask_any (v6 : Bool) (hi lo bits : Int) (w : World) (h0 : 0 ≤ hi) (h1 : hi < 18446744073709551616) (l0 : 0 ≤ lo) (l1 : lo < 18446744073709551616) :
    Calls Try.prog 43 #[.agg #[.bool v6, .int .u64 hi, .int .u64 lo], .int .i64 bits] w fun e w' => e = .returned (.agg #[.bool v6, .int .u64 (mkHi v6 hi bits), .int .u64 (mkLo v6 lo bits)]) ∧ Below w.heap.size w w' := by
  obtain ⟨w1, hw1⟩ : ∃ w1, w1 = (w.alloc (.cells #[.bool v6, .int .u64 hi, .int .u64 lo] 27)).alloc (.cells #[.bool false, .int .u64 0, .int .u64 0] 27) := ⟨_, rfl⟩
  have E1 := Lib.hid hw1
  have hsz : (w.alloc (.cells #[.bool v6, .int .u64 hi, .int .u64 lo] 27)).heap.size = w.heap.size + 1 := by simp
  have HB := Lib.hid (show Blk w1 (w.heap.size + 1) 27 #[.bool false, .int .u64 0, .int .u64 0] from by rw [hw1, ← hsz]; exact Blk.new _ _ _)
  have HA := Lib.hid (show Blk w1 w.heap.size 27 #[.bool v6, .int .u64 hi, .int .u64 lo] from by rw [hw1]; exact (Blk.new w _ _).alloc _)
  have HW := Lib.hid (show Below w.heap.size w w1 from hw1 ▸ ((Below.refl w.heap.size w).alloc (Nat.le_refl _) _).alloc (by simp) _)
  have HBT := Lib.hid (bits_any v6 hi lo w1)
  obtain ⟨b, hb⟩ : ∃ b, b = cutN v6 bits := ⟨_, rfl⟩
  have HCB := Lib.hid (show b = min (max bits 0) (if v6 = true then 128 else 32) from hb)
  obtain ⟨hb0, hb1, hb2⟩ := hb ▸ cutN_in v6 bits
  clear hw1 hsz
  have K0 := HA.out.cell 0
  have K1 := HA.out.cell 1
  have K2 := HA.out.cell 2
  go_enter Try.func43, Try.ntmps43
  go_upto_region 1 with fail
  rw [← E1.out]
  go_cut [1] (fun v wx => v = .int .i64 b ∧ Below w1.heap.size w1 wx)
  case first =>
    have hc : bits < 0 ∨ 0 ≤ bits := by omega
    cases v6 with
    | false =>
      rcases hc with hc | hc
      · have t1 : decide (0 ≤ bits) = false := decide_eq_false (by omega)
        go_wp2_with fail
        refine HBT.out.mono ?_
        rintro e w2 ⟨rfl, hb2⟩
        go_wp2_with fail
        go_meet
        exact ⟨by rw [HCB.out]; simp; omega, hb2⟩
      · have t1 : decide (0 ≤ bits) = true := decide_eq_true (by omega)
        go_wp2_with fail
        refine HBT.out.mono ?_
        rintro e w2 ⟨rfl, hb2⟩
        go_wp2_with fail
        all_goals
          go_meet
          exact ⟨by rw [HCB.out]; simp; omega, hb2⟩
    | true =>
      rcases hc with hc | hc
      · have t1 : decide (0 ≤ bits) = false := decide_eq_false (by omega)
        go_wp2_with fail
        refine HBT.out.mono ?_
        rintro e w2 ⟨rfl, hb2⟩
        go_wp2_with fail
        go_meet
        exact ⟨by rw [HCB.out]; simp; omega, hb2⟩
      · have t1 : decide (0 ≤ bits) = true := decide_eq_true (by omega)
        go_wp2_with fail
        refine HBT.out.mono ?_
        rintro e w2 ⟨rfl, hb2⟩
        go_wp2_with fail
        all_goals
          go_meet
          exact ⟨by rw [HCB.out]; simp; omega, hb2⟩
  case rest =>
    obtain ⟨rfl, hbc⟩ := hcut
    have BC := Lib.hid hbc
    have KA := Lib.hid (show Blk wc w.heap.size 27 #[.bool v6, .int .u64 hi, .int .u64 lo] from (hbc.block _ HA.out.lt).trans HA.out)
    have KB := Lib.hid (show Blk wc (w.heap.size + 1) 27 #[.bool false, .int .u64 0, .int .u64 0] from (hbc.block _ HB.out.lt).trans HB.out)
    have HHI := Lib.hid (show v6 = true → mkHi v6 hi bits = maskZ hi (64 - b).toNat from fun h => by unfold mkHi; rw [if_pos h, ← hb])
    have HHO := Lib.hid (show v6 = false → mkHi v6 hi bits = hi from fun h => by unfold mkHi; rw [h, if_neg (by decide)])
    have HLO := Lib.hid (show v6 = true → mkLo v6 lo bits = maskZ lo (128 - b).toNat from fun h => by unfold mkLo; rw [if_pos h, ← hb])
    have HLN := Lib.hid (show v6 = false → mkLo v6 lo bits = maskZ lo (32 - b).toNat from fun h => by unfold mkLo; rw [← hb, h, if_neg (by decide)])
    clear K0 K1 K2 hbc hb
    have K0 : wc.cell? ⟨w.heap.size, 0, none⟩ = some (.bool v6) := KA.out.cell 0
    have K1 : wc.cell? ⟨w.heap.size, 1, none⟩ = some (.int .u64 hi) := KA.out.cell 1
    have K2 : wc.cell? ⟨w.heap.size, 2, none⟩ = some (.int .u64 lo) := KA.out.cell 2
    have z0 : wc.cell? ⟨w.heap.size + 1, 0, none⟩ = some (.bool false) := KB.out.cell 0
    have z1 : wc.cell? ⟨w.heap.size + 1, 1, none⟩ = some (.int .u64 0) := KB.out.cell 1
    have z2 : wc.cell? ⟨w.heap.size + 1, 2, none⟩ = some (.int .u64 0) := KB.out.cell 2
    have f0 : wc.frozen? ⟨w.heap.size + 1, 0, none⟩ = false := KB.out.frozen 0
    have f1 : wc.frozen? ⟨w.heap.size + 1, 1, none⟩ = false := KB.out.frozen 1
    have f2 : wc.frozen? ⟨w.heap.size + 1, 2, none⟩ = false := KB.out.frozen 2
    have HK := Lib.hid (show ∀ u v x : Value, (((wc.setCell ⟨w.heap.size + 1, 0, none⟩ u).setCell ⟨w.heap.size + 1, 1, none⟩ v).setCell ⟨w.heap.size + 1, 2, none⟩ x).cell? ⟨w.heap.size, 1, none⟩ = some (.int .u64 hi) ∧ (((wc.setCell ⟨w.heap.size + 1, 0, none⟩ u).setCell ⟨w.heap.size + 1, 1, none⟩ v).setCell ⟨w.heap.size + 1, 2, none⟩ x).cell? ⟨w.heap.size, 2, none⟩ = some (.int .u64 lo) from fun u v x => by
      have h := ((KA.out.far (p := ⟨w.heap.size + 1, 0, none⟩) (by simp) u).far (p := ⟨w.heap.size + 1, 1, none⟩) (by simp) v).far (p := ⟨w.heap.size + 1, 2, none⟩) (by simp) x
      exact ⟨h.cell 1, h.cell 2⟩)
    have HEND := Lib.hid (show ∀ a b2 c, Blk (((wc.setCell ⟨w.heap.size + 1, 0, none⟩ (.bool a)).setCell ⟨w.heap.size + 1, 1, none⟩ (.int .u64 b2)).setCell ⟨w.heap.size + 1, 2, none⟩ (.int .u64 c)) (w.heap.size + 1) 27 #[.bool a, .int .u64 b2, .int .u64 c] ∧ Below w.heap.size w (((wc.setCell ⟨w.heap.size + 1, 0, none⟩ (.bool a)).setCell ⟨w.heap.size + 1, 1, none⟩ (.int .u64 b2)).setCell ⟨w.heap.size + 1, 2, none⟩ (.int .u64 c)) from fun a b2 c =>
      ⟨((KB.out.set_ 0 (.bool a)).set_ 1 (.int .u64 b2)).set_ 2 (.int .u64 c), (((HW.out.trans (BC.out.mono HW.out.size)).setCell (by simp) _).setCell (by simp) _).setCell (by simp) _⟩)
    cases v6 with
    | false =>
      have hb3 := hb2 rfl
      have HH := HHO.out rfl
      have HL := HLN.out rfl
      have e1 : min (32 - b).toNat 64 = (32 - b).toNat := by omega
      have HS : ∀ W, (Op.shift .shl .u64 1 .i64 (32 - b)).run Try.prog W = .ok (.int .u64 (if 64 ≤ 32 - b then 0 else 2 ^ (32 - b).toNat)) W := fun W => shl_run (n := 32 - b) (by omega) W
      have HW1 := low_wrap (n := 32 - b) (by omega)
      have HN : Go.bits .andNot .u64 lo (2 ^ (min (32 - b).toNat 64) - 1) = maskZ lo (32 - b).toNat := andn_bits l0 l1 _
      obtain ⟨S, hS⟩ : ∃ S : Int, S = (if 64 ≤ 32 - b then 0 else 2 ^ (32 - b).toNat) := ⟨_, rfl⟩
      obtain ⟨L, hL⟩ : ∃ L : Int, L = 2 ^ (min (32 - b).toNat 64) - 1 := ⟨_, rfl⟩
      obtain ⟨z, hz⟩ : ∃ z : Int, z = maskZ lo (32 - b).toNat := ⟨_, rfl⟩
      rw [← hL, ← hS] at HW1
      rw [← hL, ← hz] at HN
      simp only [← hS] at HS
      rw [← hz] at HL
      have HHL := Lib.hid HL
      have HHH := Lib.hid HH
      have j1 : IntKind.i64.wrap (32 - b) = 32 - b := IntWalk.i64_in _ (by omega)
      clear hS hL hz e1 HL HH h0 h1 l0 l1 hb0 hb1 hb2 hb3
      go_wp2_with fail
      go_region_held3 (fun V => V.cell? ⟨w.heap.size, 1, none⟩ = some (.int .u64 hi) ∧ V.cell? ⟨w.heap.size, 2, none⟩ = some (.int .u64 lo)) (first | exact ⟨K1, K2⟩ | exact ⟨(HK.out _ _ _).1, (HK.out _ _ _).2⟩) (first | fail)
      go_wp2_with fail
      rw [HHL.out, HHH.out]
      refine bodyPost_ret (results_ad rfl _ _ (w.heap.size + 1) false hi z rfl (HEND.out _ _ _).1) rfl ⟨rfl, (HEND.out _ _ _).2.drew⟩
    | true =>
      have HH := HHI.out rfl
      have HL := HLO.out rfl
      have HN1 : Go.bits .andNot .u64 hi (2 ^ (min (64 - b).toNat 64) - 1) = maskZ hi (64 - b).toNat := andn_bits h0 h1 _
      have HN2 : Go.bits .andNot .u64 lo (2 ^ (min (128 - b).toNat 64) - 1) = maskZ lo (128 - b).toNat := andn_bits l0 l1 _
      have HL1 := Lib.hid (fun W => low_any (64 - b) W (by omega))
      have HL2 := Lib.hid (fun W => low_any (128 - b) W (by omega))
      obtain ⟨L1, hL1⟩ : ∃ L : Int, L = 2 ^ (min (64 - b).toNat 64) - 1 := ⟨_, rfl⟩
      obtain ⟨L2, hL2⟩ : ∃ L : Int, L = 2 ^ (min (128 - b).toNat 64) - 1 := ⟨_, rfl⟩
      obtain ⟨y1, hy1⟩ : ∃ z : Int, z = maskZ hi (64 - b).toNat := ⟨_, rfl⟩
      obtain ⟨y2, hy2⟩ : ∃ z : Int, z = maskZ lo (128 - b).toNat := ⟨_, rfl⟩
      rw [← hL1, ← hy1] at HN1
      rw [← hL2, ← hy2] at HN2
      rw [← hy1] at HH
      rw [← hy2] at HL
      rw [← hL1] at HL1
      rw [← hL2] at HL2
      have HHL := Lib.hid HL
      have HHH := Lib.hid HH
      have j1 : IntKind.i64.wrap (128 - b) = 128 - b := IntWalk.i64_in _ (by omega)
      have j3 : 128 - b - 64 = 64 - b := by omega
      have j2 : IntKind.i64.wrap (64 - b) = 64 - b := IntWalk.i64_in _ (by omega)
      have HV := Lib.hid (fun W => v6_any y1 y2 W)
      clear hL1 hL2 hy1 hy2 HL HH h0 h1 l0 l1 hb0 hb1 hb2 z0 z1 z2 f0 f1 f2
      go_wp2_with fail
      go_region_held3 (fun V => V.cell? ⟨w.heap.size, 1, none⟩ = some (.int .u64 hi) ∧ V.cell? ⟨w.heap.size, 2, none⟩ = some (.int .u64 lo)) (first | exact ⟨K1, K2⟩ | with_reducible exact HS9.out | exact ⟨(HS8.out _ _ _).1, (HS8.out _ _ _).2⟩) (first
        | ((with_reducible refine (HL1.out _).mono ?_); rintro e w' ⟨rfl, rfl⟩)
        | ((with_reducible refine (HL2.out _).mono ?_); rintro e w' ⟨rfl, rfl⟩)
        | ((with_reducible refine (HV.out _).mono ?_)
           rintro e w' ⟨rfl, hbv⟩
           have KV := Lib.hid (show Below wc.heap.size wc w' from (Below.refl wc.heap.size wc).drew.trans hbv)
           have QB := Lib.hid (show Blk w' (w.heap.size + 1) 27 #[.bool false, .int .u64 0, .int .u64 0] from (hbv.block _ (show w.heap.size + 1 < wc.drew.heap.size from KB.out.lt)).trans KB.out)
           have QA := Lib.hid (show Blk w' w.heap.size 27 #[.bool true, .int .u64 hi, .int .u64 lo] from (hbv.block _ (show w.heap.size < wc.drew.heap.size from KA.out.lt)).trans KA.out)
           have z0 : w'.cell? ⟨w.heap.size + 1, 0, none⟩ = some (.bool false) := QB.out.cell 0
           have z1 : w'.cell? ⟨w.heap.size + 1, 1, none⟩ = some (.int .u64 0) := QB.out.cell 1
           have z2 : w'.cell? ⟨w.heap.size + 1, 2, none⟩ = some (.int .u64 0) := QB.out.cell 2
           have f0 : w'.frozen? ⟨w.heap.size + 1, 0, none⟩ = false := QB.out.frozen 0
           have f1 : w'.frozen? ⟨w.heap.size + 1, 1, none⟩ = false := QB.out.frozen 1
           have f2 : w'.frozen? ⟨w.heap.size + 1, 2, none⟩ = false := QB.out.frozen 2
           have HS9 := Lib.hid (show w'.cell? ⟨w.heap.size, 1, none⟩ = some (.int .u64 hi) ∧ w'.cell? ⟨w.heap.size, 2, none⟩ = some (.int .u64 lo) from ⟨QA.out.cell 1, QA.out.cell 2⟩)
           have HS8 := Lib.hid (HFA w.heap.size _ QA.out)
           have HENV := Lib.hid (HENDW w.heap.size w w' QB.out (HW.out.trans (BC.out.mono HW.out.size |>.trans (KV.out.mono (by have := HW.out.size; have := BC.out.size; omega)))))
           clear hbv))
      go_wp2_with fail
      rw [HHL.out, HHH.out]
      refine bodyPost_ret (results_ad rfl _ _ (w.heap.size + 1) true y1 y2 rfl (HENV.out _ _ _).1) rfl ⟨rfl, (HENV.out _ _ _).2⟩
end Go.Proofs.Ytamndmlaikgogaa.vdC
