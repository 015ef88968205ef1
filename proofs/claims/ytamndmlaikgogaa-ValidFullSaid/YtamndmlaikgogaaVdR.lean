/- Layer 19: a configuration with fewer nodes, addresses and views. -/
import Derived.Test.YtamndmlaikgogaaVdJ
import Derived.Deep.DeepCutAuto
namespace Go.Proofs.Ytamndmlaikgogaa.vdR
open Go.ChangeShapes Go.WideShapes Go.ChangeAt Go.RowKit
open Go.Proofs.Ytamndmlaikgogaa.base Go.Proofs.Ytamndmlaikgogaa.dfA Go.Proofs.Ytamndmlaikgogaa.treB Go.Proofs.Ytamndmlaikgogaa.vdA Go.Proofs.Ytamndmlaikgogaa.vdH Go.Proofs.Ytamndmlaikgogaa.vdJ
set_option linter.unusedVariables false

theorem size_c : (Try.prog.info? 30).map (·.size) = some 11 := by kernel_rfl
theorem one_c (nA : Option Addr) (nn nC : Nat) (vA : Option Addr) (vn vC : Nat) (wA : Option Addr) (wn wC : Nat) (fac dom : Int) (a6 : Bool) (ah al : Int) (b6 : Bool) (bh bl : Int) : (#[.slice nA nn nC, .slice vA vn vC, .slice wA wn wC, .int .i64 fac, .int .i64 dom, .bool a6, .int .u64 ah, .int .u64 al, .bool b6, .int .u64 bh, .int .u64 bl] : Array Value).all (·.oneCell') = true := by simp [Value.oneCell']
theorem results_c {fn : Func} {p : Tmp} (h : fn.results = #[.cell p 30]) (tmps : Array Value) (w : World) (g : Nat) (cs : Array Value) (hc : cs.size = 11) (hp : tmps.getD p undef = .pointer (some ⟨g, 0, none⟩)) (hg : Blk w g 30 cs) :
    (results fn tmps).run Try.prog w = .ok (.agg cs) w :=
  results_cell_row h tmps w g 30 cs (0, 0) _ hp hg Try.underlying30 rfl (by rw [size_c, hc])
set_option maxHeartbeats 8000000 in
set_option maxRecDepth 100000 in
theorem few_raw (nA : Option Addr) (nn nC : Nat) (vA : Option Addr) (vn vC : Nat) (wA : Option Addr) (wn wC : Nat) (fac dom : Int) (a6 : Bool) (ah al : Int) (b6 : Bool) (bh bl : Int) (w : World)
    (h1 : 60 < nn → ∃ b off, nA = some ⟨b, off, none⟩) (h2 : 20 < vn → ∃ b off, vA = some ⟨b, off, none⟩) (h3 : 20 < wn → ∃ b off, wA = some ⟨b, off, none⟩) (n1 : nn ≤ nC) (n2 : nC ≤ 9223372036854775807) (v1 : vn ≤ vC) (v2 : vC ≤ 9223372036854775807) (w1' : wn ≤ wC) (w2' : wC ≤ 9223372036854775807) :
    Calls Try.prog 9 #[.agg #[.slice nA nn nC, .slice vA vn vC, .slice wA wn wC, .int .i64 fac, .int .i64 dom, .bool a6, .int .u64 ah, .int .u64 al, .bool b6, .int .u64 bh, .int .u64 bl]] w fun o w' => o = .returned (.agg #[.slice nA (min 60 nn) nC, .slice vA (min 20 vn) vC, .slice wA (min 20 wn) wC, .int .i64 fac, .int .i64 dom, .bool a6, .int .u64 ah, .int .u64 al, .bool b6, .int .u64 bh, .int .u64 bl]) ∧ Below w.heap.size w w' := by
  obtain ⟨w1, hw1⟩ : ∃ w1, w1 = (w.alloc (.cells #[.slice nA nn nC, .slice vA vn vC, .slice wA wn wC, .int .i64 fac, .int .i64 dom, .bool a6, .int .u64 ah, .int .u64 al, .bool b6, .int .u64 bh, .int .u64 bl] 30)).alloc (.cells #[.slice none 0 0, .slice none 0 0, .slice none 0 0, .int .i64 0, .int .i64 0, .bool false, .int .u64 0, .int .u64 0, .bool false, .int .u64 0, .int .u64 0] 30) := ⟨_, rfl⟩
  have E1 := Lib.hid hw1
  have hsz : (w.alloc (.cells #[.slice nA nn nC, .slice vA vn vC, .slice wA wn wC, .int .i64 fac, .int .i64 dom, .bool a6, .int .u64 ah, .int .u64 al, .bool b6, .int .u64 bh, .int .u64 bl] 30)).heap.size = w.heap.size + 1 := by simp
  have K1 := Lib.hid (show Blk w1 w.heap.size 30 #[.slice nA nn nC, .slice vA vn vC, .slice wA wn wC, .int .i64 fac, .int .i64 dom, .bool a6, .int .u64 ah, .int .u64 al, .bool b6, .int .u64 bh, .int .u64 bl] from by rw [hw1]; exact (Blk.new w _ _).alloc _)
  have Z1 := Lib.hid (show Blk w1 (w.heap.size + 1) 30 #[.slice none 0 0, .slice none 0 0, .slice none 0 0, .int .i64 0, .int .i64 0, .bool false, .int .u64 0, .int .u64 0, .bool false, .int .u64 0, .int .u64 0] from by rw [hw1, ← hsz]; exact Blk.new _ _ _)
  have B1 := Lib.hid (show Below w.heap.size w w1 from hw1 ▸ ((Below.refl _ _).alloc (Nat.le_refl _) _).alloc (by simp) _)
  obtain ⟨mn, hmn⟩ : ∃ m, m = min 60 nn := ⟨_, rfl⟩
  obtain ⟨mv, hmv⟩ : ∃ m, m = min 20 vn := ⟨_, rfl⟩
  obtain ⟨mw, hmw⟩ : ∃ m, m = min 20 wn := ⟨_, rfl⟩
  rw [← hmn, ← hmv, ← hmw]
  have HMN := Lib.hid hmn
  have HMV := Lib.hid hmv
  have HMW := Lib.hid hmw
  have H1 := Lib.hid h1
  have H2 := Lib.hid h2
  have H3 := Lib.hid h3
  have BD := Lib.hid (show nn ≤ nC ∧ nC ≤ 9223372036854775807 ∧ vn ≤ vC ∧ vC ≤ 9223372036854775807 ∧ wn ≤ wC ∧ wC ≤ 9223372036854775807 from ⟨n1, n2, v1, v2, w1', w2'⟩)
  clear hmn hmv hmw h1 h2 h3 n1 n2 v1 v2 w1' w2'
  have d0 : w1.cell? ⟨w.heap.size, 0, none⟩ = some (.slice nA nn nC) := K1.out.cell 0
  clear hw1 hsz
  go_enter Try.func9, Try.ntmps9
  go_upto_region 1 with fail
  rw [← E1.out]
  go_upto_if 6 with fail
  go_cut [] (fun wx => Hid (Blk wx w.heap.size 30 #[.slice nA mn nC, .slice vA vn vC, .slice wA wn wC, .int .i64 fac, .int .i64 dom, .bool a6, .int .u64 ah, .int .u64 al, .bool b6, .int .u64 bh, .int .u64 bl] ∧ Blk wx (w.heap.size + 1) 30 #[.slice none 0 0, .slice none 0 0, .slice none 0 0, .int .i64 0, .int .i64 0, .bool false, .int .u64 0, .int .u64 0, .bool false, .int .u64 0, .int .u64 0] ∧ Below w.heap.size w wx))
  case first =>
    by_cases hb : 60 < nn
    · have t1 : decide ((60 : Int) < nn) = true := decide_eq_true (by omega)
      obtain ⟨b, off, hA⟩ := H1.out hb
      subst hA
      have hx : mn = 60 := by have := HMN.out; omega
      subst hx
      have f0 : w1.frozen? ⟨w.heap.size, 0, none⟩ = false := K1.out.frozen 0
      have j1 : (60 : Int) ≤ (nC : Int) := by have := BD.out; omega
      go_wp2_with fail
      go_meet
      exact Lib.hid ⟨K1.out.set_ 0 _, Z1.out.far (p := ⟨w.heap.size, 0, none⟩) (by show w.heap.size + 1 ≠ w.heap.size; omega) _, B1.out.setCell (Nat.le_refl _) _⟩
    · have t1 : decide ((60 : Int) < nn) = false := decide_eq_false (by omega)
      have hx : nn = mn := by have := HMN.out; omega
      subst hx
      go_wp2_with fail
      go_meet
      exact Lib.hid ⟨K1.out, Z1.out, B1.out⟩
  case rest =>
    obtain ⟨w2, hw2⟩ : ∃ x, x = wc := ⟨_, rfl⟩
    subst hw2
    have K2 := Lib.hid hcut.out.1
    have Z2 := Lib.hid hcut.out.2.1
    have B2 := Lib.hid hcut.out.2.2
    clear hcut d0
    have d1 : w2.cell? ⟨w.heap.size, 1, none⟩ = some (.slice vA vn vC) := K2.out.cell 1
    go_upto_if 14 with fail
    go_cut [] (fun wx => Hid (Blk wx w.heap.size 30 #[.slice nA mn nC, .slice vA mv vC, .slice wA wn wC, .int .i64 fac, .int .i64 dom, .bool a6, .int .u64 ah, .int .u64 al, .bool b6, .int .u64 bh, .int .u64 bl] ∧ Blk wx (w.heap.size + 1) 30 #[.slice none 0 0, .slice none 0 0, .slice none 0 0, .int .i64 0, .int .i64 0, .bool false, .int .u64 0, .int .u64 0, .bool false, .int .u64 0, .int .u64 0] ∧ Below w.heap.size w wx))
    case first =>
      by_cases hb : 20 < vn
      · have t1 : decide ((20 : Int) < vn) = true := decide_eq_true (by omega)
        obtain ⟨b, off, hA⟩ := H2.out hb
        subst hA
        have hx : mv = 20 := by have := HMV.out; omega
        subst hx
        have f0 : w2.frozen? ⟨w.heap.size, 1, none⟩ = false := K2.out.frozen 1
        have j1 : (20 : Int) ≤ (vC : Int) := by have := BD.out; omega
        go_wp2_with fail
        go_meet
        exact Lib.hid ⟨K2.out.set_ 1 _, Z2.out.far (p := ⟨w.heap.size, 1, none⟩) (by show w.heap.size + 1 ≠ w.heap.size; omega) _, B2.out.setCell (Nat.le_refl _) _⟩
      · have t1 : decide ((20 : Int) < vn) = false := decide_eq_false (by omega)
        have hx : vn = mv := by have := HMV.out; omega
        subst hx
        go_wp2_with fail
        go_meet
        exact Lib.hid ⟨K2.out, Z2.out, B2.out⟩
    case rest =>
      obtain ⟨w3, hw3⟩ : ∃ x, x = wc := ⟨_, rfl⟩
      subst hw3
      have K3 := Lib.hid hcut.out.1
      have Z3 := Lib.hid hcut.out.2.1
      have B3 := Lib.hid hcut.out.2.2
      clear hcut d1
      have d2 : w3.cell? ⟨w.heap.size, 2, none⟩ = some (.slice wA wn wC) := K3.out.cell 2
      go_upto_if 22 with fail
      go_cut [] (fun wx => Hid (Blk wx w.heap.size 30 #[.slice nA mn nC, .slice vA mv vC, .slice wA mw wC, .int .i64 fac, .int .i64 dom, .bool a6, .int .u64 ah, .int .u64 al, .bool b6, .int .u64 bh, .int .u64 bl] ∧ Blk wx (w.heap.size + 1) 30 #[.slice none 0 0, .slice none 0 0, .slice none 0 0, .int .i64 0, .int .i64 0, .bool false, .int .u64 0, .int .u64 0, .bool false, .int .u64 0, .int .u64 0] ∧ Below w.heap.size w wx))
      case first =>
        by_cases hb : 20 < wn
        · have t1 : decide ((20 : Int) < wn) = true := decide_eq_true (by omega)
          obtain ⟨b, off, hA⟩ := H3.out hb
          subst hA
          have hx : mw = 20 := by have := HMW.out; omega
          subst hx
          have f0 : w3.frozen? ⟨w.heap.size, 2, none⟩ = false := K3.out.frozen 2
          have j1 : (20 : Int) ≤ (wC : Int) := by have := BD.out; omega
          go_wp2_with fail
          go_meet
          exact Lib.hid ⟨K3.out.set_ 2 _, Z3.out.far (p := ⟨w.heap.size, 2, none⟩) (by show w.heap.size + 1 ≠ w.heap.size; omega) _, B3.out.setCell (Nat.le_refl _) _⟩
        · have t1 : decide ((20 : Int) < wn) = false := decide_eq_false (by omega)
          have hx : wn = mw := by have := HMW.out; omega
          subst hx
          go_wp2_with fail
          go_meet
          exact Lib.hid ⟨K3.out, Z3.out, B3.out⟩
      case rest =>
        obtain ⟨w4, hw4⟩ : ∃ x, x = wc := ⟨_, rfl⟩
        subst hw4
        have K4 := Lib.hid hcut.out.1
        have Z4 := Lib.hid hcut.out.2.1
        have B4 := Lib.hid hcut.out.2.2
        clear hcut d2
        have e0 : w4.cell? ⟨w.heap.size, 0, none⟩ = some (.slice nA mn nC) := K4.out.cell 0
        have e1 : w4.cell? ⟨w.heap.size, 1, none⟩ = some (.slice vA mv vC) := K4.out.cell 1
        have e2 : w4.cell? ⟨w.heap.size, 2, none⟩ = some (.slice wA mw wC) := K4.out.cell 2
        have e3 : w4.cell? ⟨w.heap.size, 3, none⟩ = some (.int .i64 fac) := K4.out.cell 3
        have e4 : w4.cell? ⟨w.heap.size, 4, none⟩ = some (.int .i64 dom) := K4.out.cell 4
        have e5 : w4.cell? ⟨w.heap.size, 5, none⟩ = some (.bool a6) := K4.out.cell 5
        have e6 : w4.cell? ⟨w.heap.size, 6, none⟩ = some (.int .u64 ah) := K4.out.cell 6
        have e7 : w4.cell? ⟨w.heap.size, 7, none⟩ = some (.int .u64 al) := K4.out.cell 7
        have e8 : w4.cell? ⟨w.heap.size, 8, none⟩ = some (.bool b6) := K4.out.cell 8
        have e9 : w4.cell? ⟨w.heap.size, 9, none⟩ = some (.int .u64 bh) := K4.out.cell 9
        have e10 : w4.cell? ⟨w.heap.size, 10, none⟩ = some (.int .u64 bl) := K4.out.cell 10
        have HR := Lib.hid (setRow_heap _ (w.heap.size + 1) _ #[.slice nA mn nC, .slice vA mv vC, .slice wA mw wC, .int .i64 fac, .int .i64 dom, .bool a6, .int .u64 ah, .int .u64 al, .bool b6, .int .u64 bh, .int .u64 bl] _ (0, 0) Z4.out)
        have BZ := Lib.hid (below_row B4.out (Nat.le_succ w.heap.size) #[.slice nA mn nC, .slice vA mv vC, .slice wA mw wC, .int .i64 fac, .int .i64 dom, .bool a6, .int .u64 ah, .int .u64 al, .bool b6, .int .u64 bh, .int .u64 bl])
        go_wp2_with (refine wpList_store_row rfl 30 _ _ rfl (w.heap.size + 1) #[.slice nA mn nC, .slice vA mv vC, .slice wA mw wC, .int .i64 fac, .int .i64 dom, .bool a6, .int .u64 ah, .int .u64 al, .bool b6, .int .u64 bh, .int .u64 bl] rfl rfl 30 #[.slice none 0 0, .slice none 0 0, .slice none 0 0, .int .i64 0, .int .i64 0, .bool false, .int .u64 0, .int .u64 0, .bool false, .int .u64 0, .int .u64 0] Z4.out size_c rfl (one_c _ _ _ _ _ _ _ _ _ _ _ _ _ _ _ _ _) ?_)
        refine bodyPost_ret (results_c rfl _ _ (w.heap.size + 1) _ rfl rfl HR.out) rfl ⟨rfl, BZ.out⟩
def fewC (c : Cf) : Cf := { c with nds := c.nds.take 60, vps := c.vps.take 20, vws := c.vws.take 20 }
/-- A configuration of whatever length that comes in. -/
structure CfRaw (w : World) (c : Cf) : Prop where
  rn : RdN w c.nA c.nds
  cn : c.nds.length ≤ c.nc
  cn2 : c.nc ≤ 9223372036854775807
  nm : ∀ j (hj : j < c.nds.length), (c.nds[j]).nm.size ≤ 9223372036854775807
  rv : RdV w c.vA c.vps
  cv : c.vps.length ≤ c.vc
  cv2 : c.vc ≤ 9223372036854775807
  rw_ : RdW w c.wA c.vws
  cw : c.vws.length ≤ c.wc
  cw2 : c.wc ≤ 9223372036854775807
  vu : ∀ j, j < c.vws.length → U64 (c.vws.getD j zVw).hi ∧ U64 (c.vws.getD j zVw).lo
theorem getD_take {α : Type} (l : List α) (k j : Nat) (z : α) (h : j < k) : (l.take k).getD j z = l.getD j z := by
  rw [List.getD_eq_getElem?_getD, List.getD_eq_getElem?_getD, List.getElem?_take_of_lt h]
theorem few_in {w : World} {c : Cf} (h : CfRaw w c) : CfIn w (fewC c) where
  rn := by
    rcases h.rn with h0 | ⟨b, off, h1, h2, h3⟩
    · exact .inl (by show c.nds.take 60 = []; rw [h0]; rfl)
    · refine .inr ⟨b, off, h1, h2, fun j hj i hi => ?_⟩
      have hj3 : j < (c.nds.take 60).length := hj
      have hj2 := hj3
      rw [List.length_take] at hj2
      rw [h3 j (by omega) i hi]
      show _ = ((c.nds.take 60)[j]'hj3).cells[i]?
      rw [List.getElem_take]
  cn := by show (c.nds.take 60).length ≤ c.nc; rw [List.length_take]; have := h.cn; omega
  cn2 := h.cn2
  n1 := by show (c.nds.take 60).length ≤ 60; rw [List.length_take]; omega
  nm := fun j hj => by
    have hj3 : j < (c.nds.take 60).length := hj
    have hj2 := hj3
    rw [List.length_take] at hj2
    show ((c.nds.take 60)[j]'hj3).nm.size ≤ _
    rw [List.getElem_take]
    exact h.nm j (by omega)
  rv := by
    have hl : (c.vps.take 20).length ≤ c.vps.length := by rw [List.length_take]; omega
    exact rows_take h.rv _ hl fun j hj => by
      have hj2 : j < (c.vps.take 20).length := hj
      rw [List.length_take] at hj2
      show (c.vps.getD j zVp).cells.toList = ((c.vps.take 20).getD j zVp).cells.toList
      rw [getD_take _ _ _ _ (by omega)]
  cv := by show (c.vps.take 20).length ≤ c.vc; rw [List.length_take]; have := h.cv; omega
  cv2 := h.cv2
  v1 := by show (c.vps.take 20).length ≤ 1000; rw [List.length_take]; omega
  rw_ := by
    have hl : (c.vws.take 20).length ≤ c.vws.length := by rw [List.length_take]; omega
    exact rows_take h.rw_ _ hl fun j hj => by
      have hj2 : j < (c.vws.take 20).length := hj
      rw [List.length_take] at hj2
      show (c.vws.getD j zVw).cells.toList = ((c.vws.take 20).getD j zVw).cells.toList
      rw [getD_take _ _ _ _ (by omega)]
  cw := by show (c.vws.take 20).length ≤ c.wc; rw [List.length_take]; have := h.cw; omega
  cw2 := h.cw2
  w1 := by show (c.vws.take 20).length ≤ 1000; rw [List.length_take]; omega
  vu := fun j hj => by
    have hj2 : j < (c.vws.take 20).length := hj
    rw [List.length_take] at hj2
    show U64 ((c.vws.take 20).getD j zVw).hi ∧ U64 ((c.vws.take 20).getD j zVw).lo
    rw [getD_take _ _ _ _ (by omega)]
    exact h.vu j (by omega)
theorem few_c (c : Cf) (w : World) (h : CfRaw w c) (W : World) : Calls Try.prog 9 #[.agg c.cells] W fun o w' => o = .returned (.agg (fewC c).cells) ∧ Below W.heap.size W w' := by
  have k1 : 60 < c.nds.length → ∃ b off, c.nA = some ⟨b, off, none⟩ := fun hl => by
    rcases h.rn with h0 | ⟨b, off, h1, _⟩
    · rw [h0] at hl; exact absurd hl (by simp)
    · exact ⟨b, off, h1⟩
  have k2 : 20 < c.vps.length → ∃ b off, c.vA = some ⟨b, off, none⟩ := fun hl => by
    rcases h.rv with h0 | ⟨b, off, h1, _⟩
    · omega
    · exact ⟨b, off, h1⟩
  have k3 : 20 < c.vws.length → ∃ b off, c.wA = some ⟨b, off, none⟩ := fun hl => by
    rcases h.rw_ with h0 | ⟨b, off, h1, _⟩
    · omega
    · exact ⟨b, off, h1⟩
  have hr := few_raw c.nA c.nds.length c.nc c.vA c.vps.length c.vc c.wA c.vws.length c.wc c.fac c.dom c.a6 c.ah c.al c.b6 c.bh c.bl W k1 k2 k3 h.cn h.cn2 h.cv h.cv2 h.cw h.cw2
  refine hr.mono ?_
  rintro o w' ⟨rfl, hb⟩
  refine ⟨?_, hb⟩
  unfold fewC Cf.cells
  simp only [List.length_take]
end Go.Proofs.Ytamndmlaikgogaa.vdR
